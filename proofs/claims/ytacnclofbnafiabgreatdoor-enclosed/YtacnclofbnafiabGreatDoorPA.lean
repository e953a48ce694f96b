import Derived.Test.YtacnclofbnafiabGreatDoorCA
import Derived.WalkKit
namespace Go.Proofs.YtacnclofbnafiabGreatDoor
open Go.RowKit Fl

@[go_sem] theorem ta_bb (v : Value) (w : World) : (Instr.typeAssert (.iface 121 v) 120 121 true).run Tryz.prog w = .ok (.tuple #[v, .bool true]) w := by kernel_rfl
@[go_sem] theorem ta_dd (v : Value) (w : World) : (Instr.typeAssert (.iface 124 v) 120 124 true).run Tryz.prog w = .ok (.tuple #[v, .bool true]) w := by kernel_rfl
@[go_sem] theorem ta_db (v : Value) (w : World) : (Instr.typeAssert (.iface 124 v) 120 121 true).run Tryz.prog w = .ok (.tuple #[.agg #[.float .f64 0, .float .f64 0, .float .f64 0, .float .f64 0], .bool false]) w := by kernel_rfl
@[go_sem] theorem buildVB (a b c d : Nat) (w : World) : (Instr.build 44 #[(0, .int .i64 0), (1, .agg #[.float .f64 a, .float .f64 b, .float .f64 c, .float .f64 d])]).run Tryz.prog w = .ok (.agg #[.int .i64 0, .float .f64 a, .float .f64 b, .float .f64 c, .float .f64 d, .complex .f64 0 0, .float .f64 0]) w := run_build w 44 _ _ (by kernel_rfl)
@[go_sem] theorem buildVD (a b r : Nat) (w : World) : (Instr.build 44 #[(0, .int .i64 1), (2, .agg #[.complex .f64 a b, .float .f64 r])]).run Tryz.prog w = .ok (.agg #[.int .i64 1, .float .f64 0, .float .f64 0, .float .f64 0, .float .f64 0, .complex .f64 a b, .float .f64 r]) w := run_build w 44 _ _ (by kernel_rfl)
@[go_sem] theorem buildV0 (w : World) : (Instr.build 44 #[]).run Tryz.prog w = .ok (.agg #[.int .i64 0, .float .f64 0, .float .f64 0, .float .f64 0, .float .f64 0, .complex .f64 0 0, .float .f64 0]) w := run_build w 44 _ _ (by kernel_rfl)
@[go_sem] theorem mf (fn : Fn) (first cap : Array Value) (w : World) : (Instr.makeFunc fn first cap).run Tryz.prog w = .ok (.func fn first cap) w := rfl

set_option maxRecDepth 100000 in
set_option maxHeartbeats 2000000 in
theorem asBox_b_w (X1 X2 X3 X4 : Nat) (w : World) :
    Calls Tryz.prog 128 #[.iface 121 (.agg #[.float .f64 X1, .float .f64 X2, .float .f64 X3, .float .f64 X4])] w fun e w' => e = .returned (.agg #[.float .f64 X1, .float .f64 X2, .float .f64 X3, .float .f64 X4]) ∧ Below w.heap.size w w' := by
  go_enter Tryz.func128, Tryz.ntmps128
  go_wp2_with fail
  refine bodyPost_ret (v := .agg #[.float .f64 X1, .float .f64 X2, .float .f64 X3, .float .f64 X4]) (by simp [results, Tryz.results128, go_sem, *]) rfl ⟨rfl, ?_⟩
  repeat (with_reducible first | exact Below.refl _ _ | assumption | refine Below.drew ?_ | refine bl_drewN ?_ _ | refine Below.setCell ?_ (by first | omega | (simp; done) | (simp; omega)) _ | refine Below.alloc ?_ (by first | omega | (simp; done) | (simp; omega)) _ | refine bl_next ?_ (by assumption) | refine bl_trans ?_ (by assumption) (by first | omega | (simp; done) | (simp; omega)))

set_option maxRecDepth 100000 in
set_option maxHeartbeats 2000000 in
theorem asBox_d_w (a1 a2 a3 e1 e2 e3 e4 : Nat)
    (tb : ∀ w, Calls Tryz.prog 84 #[.agg #[.complex .f64 a1 a2, .float .f64 a3]] w fun e w' => e = .returned (.agg #[.float .f64 e1, .float .f64 e2, .float .f64 e3, .float .f64 e4]) ∧ Below w.heap.size w w') (w : World) :
    Calls Tryz.prog 128 #[.iface 124 (.agg #[.complex .f64 a1 a2, .float .f64 a3])] w fun e w' => e = .returned (.agg #[.float .f64 e1, .float .f64 e2, .float .f64 e3, .float .f64 e4]) ∧ Below w.heap.size w w' := by
  go_enter Tryz.func128, Tryz.ntmps128
  go_wp2_with fail
  obtain ⟨w0, hw0⟩ : ∃ v, v = ((w.alloc (.cells #[.float .f64 0, .float .f64 0, .float .f64 0, .float .f64 0] 39)).alloc (.cells #[.complex .f64 a1 a2, .float .f64 a3] 124)) := ⟨_, rfl⟩
  rw [← hw0]
  have c00 : w0.cell? ⟨w.heap.size, 0, none⟩ = some (.float .f64 0) := by simp [hw0, go_sem]
  have fc00 : w0.frozen? ⟨w.heap.size, 0, none⟩ = false := by simp [hw0, go_sem]
  have c01 : w0.cell? ⟨w.heap.size, 1, none⟩ = some (.float .f64 0) := by simp [hw0, go_sem]
  have fc01 : w0.frozen? ⟨w.heap.size, 1, none⟩ = false := by simp [hw0, go_sem]
  have c02 : w0.cell? ⟨w.heap.size, 2, none⟩ = some (.float .f64 0) := by simp [hw0, go_sem]
  have fc02 : w0.frozen? ⟨w.heap.size, 2, none⟩ = false := by simp [hw0, go_sem]
  have c03 : w0.cell? ⟨w.heap.size, 3, none⟩ = some (.float .f64 0) := by simp [hw0, go_sem]
  have fc03 : w0.frozen? ⟨w.heap.size, 3, none⟩ = false := by simp [hw0, go_sem]
  have c10 : w0.cell? ⟨w.heap.size + 1, 0, none⟩ = some (.complex .f64 a1 a2) := by simp [hw0, go_sem]
  have c11 : w0.cell? ⟨w.heap.size + 1, 1, none⟩ = some (.float .f64 a3) := by simp [hw0, go_sem]
  have s0 : w.heap.size + 1 + 1 ≤ w0.heap.size := by simp [hw0]
  have hB0 : Below w.heap.size w w0 := by
    rw [hw0]
    repeat (with_reducible first | exact Below.refl _ _ | assumption | refine Below.drew ?_ | refine bl_drewN ?_ _ | refine Below.setCell ?_ (by first | omega | (simp; done) | (simp; omega)) _ | refine Below.alloc ?_ (by first | omega | (simp; done) | (simp; omega)) _ | refine bl_next ?_ (by assumption) | refine bl_trans ?_ (by assumption) (by first | omega | (simp; done) | (simp; omega)))
  clear hw0
  go_at_call 84
  refine (tb _).mono ?_
  rintro e w1 ⟨rfl, hb1⟩
  have s1 := hb1.size
  try simp at s1
  replace fc00 := bfroz2 hb1 c00 fc00
  replace fc01 := bfroz2 hb1 c01 fc01
  replace fc02 := bfroz2 hb1 c02 fc02
  replace fc03 := bfroz2 hb1 c03 fc03
  replace c00 := bkeep2 hb1 c00
  replace c01 := bkeep2 hb1 c01
  replace c02 := bkeep2 hb1 c02
  replace c03 := bkeep2 hb1 c03
  replace c10 := bkeep2 hb1 c10
  replace c11 := bkeep2 hb1 c11
  have l0 : w.heap.size < w1.heap.size := cell_lt c00
  have l1 : w.heap.size + 1 < w1.heap.size := cell_lt c10
  go_wp2_with fail
  refine bodyPost_ret (v := .agg #[.float .f64 e1, .float .f64 e2, .float .f64 e3, .float .f64 e4]) (by simp [results, Tryz.results128, go_sem, *]) rfl ⟨rfl, ?_⟩
  repeat (with_reducible first | exact Below.refl _ _ | assumption | refine Below.drew ?_ | refine bl_drewN ?_ _ | refine Below.setCell ?_ (by first | omega | (simp; done) | (simp; omega)) _ | refine Below.alloc ?_ (by first | omega | (simp; done) | (simp; omega)) _ | refine bl_next ?_ (by assumption) | refine bl_trans ?_ (by assumption) (by first | omega | (simp; done) | (simp; omega)))

set_option maxRecDepth 100000 in
set_option maxHeartbeats 2000000 in
theorem asDisc_d_w (a1 a2 a3 : Nat) (w : World) :
    Calls Tryz.prog 130 #[.iface 124 (.agg #[.complex .f64 a1 a2, .float .f64 a3])] w fun e w' => e = .returned (.agg #[.complex .f64 a1 a2, .float .f64 a3]) ∧ Below w.heap.size w w' := by
  go_enter Tryz.func130, Tryz.ntmps130
  go_wp2_with fail
  refine bodyPost_ret (v := .agg #[.complex .f64 a1 a2, .float .f64 a3]) (by simp [results, Tryz.results130, go_sem, *]) rfl ⟨rfl, ?_⟩
  repeat (with_reducible first | exact Below.refl _ _ | assumption | refine Below.drew ?_ | refine bl_drewN ?_ _ | refine Below.setCell ?_ (by first | omega | (simp; done) | (simp; omega)) _ | refine Below.alloc ?_ (by first | omega | (simp; done) | (simp; omega)) _ | refine bl_next ?_ (by assumption) | refine bl_trans ?_ (by assumption) (by first | omega | (simp; done) | (simp; omega)))

set_option maxRecDepth 100000 in
set_option maxHeartbeats 2000000 in
theorem asDisc_b_w (X1 X2 X3 X4 t1 t2 t3 : Nat)
    (td : ∀ w, Calls Tryz.prog 88 #[.agg #[.float .f64 X1, .float .f64 X2, .float .f64 X3, .float .f64 X4]] w fun e w' => e = .returned (.agg #[.complex .f64 t1 t2, .float .f64 t3]) ∧ Below w.heap.size w w') (w : World) :
    Calls Tryz.prog 130 #[.iface 121 (.agg #[.float .f64 X1, .float .f64 X2, .float .f64 X3, .float .f64 X4])] w fun e w' => e = .returned (.agg #[.complex .f64 t1 t2, .float .f64 t3]) ∧ Below w.heap.size w w' := by
  go_enter Tryz.func130, Tryz.ntmps130
  go_wp2_with fail
  obtain ⟨w0, hw0⟩ : ∃ v, v = ((w.alloc (.cells #[.complex .f64 0 0, .float .f64 0] 42)).alloc (.cells #[.float .f64 X1, .float .f64 X2, .float .f64 X3, .float .f64 X4] 121)) := ⟨_, rfl⟩
  rw [← hw0]
  have c00 : w0.cell? ⟨w.heap.size, 0, none⟩ = some (.complex .f64 0 0) := by simp [hw0, go_sem]
  have fc00 : w0.frozen? ⟨w.heap.size, 0, none⟩ = false := by simp [hw0, go_sem]
  have c01 : w0.cell? ⟨w.heap.size, 1, none⟩ = some (.float .f64 0) := by simp [hw0, go_sem]
  have fc01 : w0.frozen? ⟨w.heap.size, 1, none⟩ = false := by simp [hw0, go_sem]
  have c10 : w0.cell? ⟨w.heap.size + 1, 0, none⟩ = some (.float .f64 X1) := by simp [hw0, go_sem]
  have c11 : w0.cell? ⟨w.heap.size + 1, 1, none⟩ = some (.float .f64 X2) := by simp [hw0, go_sem]
  have c12 : w0.cell? ⟨w.heap.size + 1, 2, none⟩ = some (.float .f64 X3) := by simp [hw0, go_sem]
  have c13 : w0.cell? ⟨w.heap.size + 1, 3, none⟩ = some (.float .f64 X4) := by simp [hw0, go_sem]
  have s0 : w.heap.size + 1 + 1 ≤ w0.heap.size := by simp [hw0]
  have hB0 : Below w.heap.size w w0 := by
    rw [hw0]
    repeat (with_reducible first | exact Below.refl _ _ | assumption | refine Below.drew ?_ | refine bl_drewN ?_ _ | refine Below.setCell ?_ (by first | omega | (simp; done) | (simp; omega)) _ | refine Below.alloc ?_ (by first | omega | (simp; done) | (simp; omega)) _ | refine bl_next ?_ (by assumption) | refine bl_trans ?_ (by assumption) (by first | omega | (simp; done) | (simp; omega)))
  clear hw0
  go_at_call 88
  refine (td _).mono ?_
  rintro e w1 ⟨rfl, hb1⟩
  have s1 := hb1.size
  try simp at s1
  replace fc00 := bfroz2 hb1 c00 fc00
  replace fc01 := bfroz2 hb1 c01 fc01
  replace c00 := bkeep2 hb1 c00
  replace c01 := bkeep2 hb1 c01
  replace c10 := bkeep2 hb1 c10
  replace c11 := bkeep2 hb1 c11
  replace c12 := bkeep2 hb1 c12
  replace c13 := bkeep2 hb1 c13
  have l0 : w.heap.size < w1.heap.size := cell_lt c00
  have l1 : w.heap.size + 1 < w1.heap.size := cell_lt c10
  go_wp2_with fail
  refine bodyPost_ret (v := .agg #[.complex .f64 t1 t2, .float .f64 t3]) (by simp [results, Tryz.results130, go_sem, *]) rfl ⟨rfl, ?_⟩
  repeat (with_reducible first | exact Below.refl _ _ | assumption | refine Below.drew ?_ | refine bl_drewN ?_ _ | refine Below.setCell ?_ (by first | omega | (simp; done) | (simp; omega)) _ | refine Below.alloc ?_ (by first | omega | (simp; done) | (simp; omega)) _ | refine bl_next ?_ (by assumption) | refine bl_trans ?_ (by assumption) (by first | omega | (simp; done) | (simp; omega)))

set_option maxRecDepth 100000 in
set_option maxHeartbeats 2000000 in
theorem value_b_w (X1 X2 X3 X4 : Nat) (w : World) :
    Calls Tryz.prog 207 #[.agg #[.float .f64 X1, .float .f64 X2, .float .f64 X3, .float .f64 X4]] w fun e w' => e = .returned (.agg #[.int .i64 0, .float .f64 X1, .float .f64 X2, .float .f64 X3, .float .f64 X4, .complex .f64 0 0, .float .f64 0]) ∧ Below w.heap.size w w' := by
  go_enter Tryz.func207, Tryz.ntmps207
  go_wp2_with fail
  refine bodyPost_ret (v := .agg #[.int .i64 0, .float .f64 X1, .float .f64 X2, .float .f64 X3, .float .f64 X4, .complex .f64 0 0, .float .f64 0]) (by simp [results, Tryz.results207, go_sem, *]) rfl ⟨rfl, ?_⟩
  repeat (with_reducible first | exact Below.refl _ _ | assumption | refine Below.drew ?_ | refine bl_drewN ?_ _ | refine Below.setCell ?_ (by first | omega | (simp; done) | (simp; omega)) _ | refine Below.alloc ?_ (by first | omega | (simp; done) | (simp; omega)) _ | refine bl_next ?_ (by assumption) | refine bl_trans ?_ (by assumption) (by first | omega | (simp; done) | (simp; omega)))

set_option maxRecDepth 100000 in
set_option maxHeartbeats 2000000 in
theorem value_d_w (a1 a2 a3 : Nat) (w : World) :
    Calls Tryz.prog 208 #[.agg #[.complex .f64 a1 a2, .float .f64 a3]] w fun e w' => e = .returned (.agg #[.int .i64 1, .float .f64 0, .float .f64 0, .float .f64 0, .float .f64 0, .complex .f64 a1 a2, .float .f64 a3]) ∧ Below w.heap.size w w' := by
  go_enter Tryz.func208, Tryz.ntmps208
  go_wp2_with fail
  refine bodyPost_ret (v := .agg #[.int .i64 1, .float .f64 0, .float .f64 0, .float .f64 0, .float .f64 0, .complex .f64 a1 a2, .float .f64 a3]) (by simp [results, Tryz.results208, go_sem, *]) rfl ⟨rfl, ?_⟩
  repeat (with_reducible first | exact Below.refl _ _ | assumption | refine Below.drew ?_ | refine bl_drewN ?_ _ | refine Below.setCell ?_ (by first | omega | (simp; done) | (simp; omega)) _ | refine Below.alloc ?_ (by first | omega | (simp; done) | (simp; omega)) _ | refine bl_next ?_ (by assumption) | refine bl_trans ?_ (by assumption) (by first | omega | (simp; done) | (simp; omega)))

end Go.Proofs.YtacnclofbnafiabGreatDoor

namespace Go.Proofs.YtacnclofbnafiabGreatDoor
open Go.RowKit Fl

set_option maxRecDepth 100000 in
set_option maxHeartbeats 4000000 in
theorem twice_b_w (q : Nat) (X1 X2 X3 X4 e1 e2 e3 e4 : Nat)
    (cf : ∀ w, Calls Tryz.prog 87 #[.agg #[.float .f64 X1, .float .f64 X2, .float .f64 X3, .float .f64 X4], .agg #[.float .f64 X1, .float .f64 X2, .float .f64 X3, .float .f64 X4]] w fun e w' => e = .returned (.agg #[.float .f64 e1, .float .f64 e2, .float .f64 e3, .float .f64 e4]) ∧ Below w.heap.size w w')
    (w : World) (hq : w.cell? ⟨q, 0, none⟩ = some (.func (.func 87) #[] #[])) :
    Calls Tryz.prog 137 #[.agg #[.float .f64 X1, .float .f64 X2, .float .f64 X3, .float .f64 X4], .pointer (some ⟨q, 0, none⟩)] w fun e w' => e = .returned (.agg #[.float .f64 e1, .float .f64 e2, .float .f64 e3, .float .f64 e4]) ∧ Below w.heap.size w w' := by
  have lq : q < w.heap.size := cell_lt hq
  go_enter Tryz.func137, Tryz.ntmps137
  go_wp2_with fail
  obtain ⟨w0, hw0⟩ : ∃ v, v = ((w.alloc (.cells #[.float .f64 X1, .float .f64 X2, .float .f64 X3, .float .f64 X4] 39)).alloc (.cells #[.float .f64 0, .float .f64 0, .float .f64 0, .float .f64 0] 39)) := ⟨_, rfl⟩
  rw [← hw0]
  have c00 : w0.cell? ⟨w.heap.size, 0, none⟩ = some (.float .f64 X1) := by simp [hw0, go_sem]
  have c01 : w0.cell? ⟨w.heap.size, 1, none⟩ = some (.float .f64 X2) := by simp [hw0, go_sem]
  have c02 : w0.cell? ⟨w.heap.size, 2, none⟩ = some (.float .f64 X3) := by simp [hw0, go_sem]
  have c03 : w0.cell? ⟨w.heap.size, 3, none⟩ = some (.float .f64 X4) := by simp [hw0, go_sem]
  have c10 : w0.cell? ⟨w.heap.size + 1, 0, none⟩ = some (.float .f64 0) := by simp [hw0, go_sem]
  have fc10 : w0.frozen? ⟨w.heap.size + 1, 0, none⟩ = false := by simp [hw0, go_sem]
  have c11 : w0.cell? ⟨w.heap.size + 1, 1, none⟩ = some (.float .f64 0) := by simp [hw0, go_sem]
  have fc11 : w0.frozen? ⟨w.heap.size + 1, 1, none⟩ = false := by simp [hw0, go_sem]
  have c12 : w0.cell? ⟨w.heap.size + 1, 2, none⟩ = some (.float .f64 0) := by simp [hw0, go_sem]
  have fc12 : w0.frozen? ⟨w.heap.size + 1, 2, none⟩ = false := by simp [hw0, go_sem]
  have c13 : w0.cell? ⟨w.heap.size + 1, 3, none⟩ = some (.float .f64 0) := by simp [hw0, go_sem]
  have fc13 : w0.frozen? ⟨w.heap.size + 1, 3, none⟩ = false := by simp [hw0, go_sem]
  have s0 : w.heap.size + 1 + 1 ≤ w0.heap.size := by simp [hw0]
  have hB0 : Below w.heap.size w w0 := by
    rw [hw0]
    repeat (with_reducible first | exact Below.refl _ _ | assumption | refine Below.drew ?_ | refine bl_drewN ?_ _ | refine Below.setCell ?_ (by first | omega | (simp; done) | (simp; omega)) _ | refine Below.alloc ?_ (by first | omega | (simp; done) | (simp; omega)) _ | refine bl_next ?_ (by assumption) | refine bl_trans ?_ (by assumption) (by first | omega | (simp; done) | (simp; omega)))
  clear hw0
  go_at_call 87
  refine (cf _).mono ?_
  rintro e w1 ⟨rfl, hb1⟩
  have s1 := hb1.size
  try simp at s1
  replace fc10 := bfroz2 hb1 c10 fc10
  replace fc11 := bfroz2 hb1 c11 fc11
  replace fc12 := bfroz2 hb1 c12 fc12
  replace fc13 := bfroz2 hb1 c13 fc13
  replace c00 := bkeep2 hb1 c00
  replace c01 := bkeep2 hb1 c01
  replace c02 := bkeep2 hb1 c02
  replace c03 := bkeep2 hb1 c03
  replace c10 := bkeep2 hb1 c10
  replace c11 := bkeep2 hb1 c11
  replace c12 := bkeep2 hb1 c12
  replace c13 := bkeep2 hb1 c13
  have l0 : w.heap.size < w1.heap.size := cell_lt c00
  have l1 : w.heap.size + 1 < w1.heap.size := cell_lt c10
  go_wp2_with fail
  refine bodyPost_ret (v := .agg #[.float .f64 e1, .float .f64 e2, .float .f64 e3, .float .f64 e4]) (by simp [results, Tryz.results137, go_sem, *]) rfl ⟨rfl, ?_⟩
  repeat (with_reducible first | exact Below.refl _ _ | assumption | refine Below.drew ?_ | refine bl_drewN ?_ _ | refine Below.setCell ?_ (by first | omega | (simp; done) | (simp; omega)) _ | refine Below.alloc ?_ (by first | omega | (simp; done) | (simp; omega)) _ | refine bl_next ?_ (by assumption) | refine bl_trans ?_ (by assumption) (by first | omega | (simp; done) | (simp; omega)))

set_option maxRecDepth 100000 in
set_option maxHeartbeats 4000000 in
theorem add_b_w (p g off len cap : Nat) (u1 u2 : Value) (X1 X2 X3 X4 Y1 Y2 Y3 Y4 e1 e2 e3 e4 : Nat)
    (ca : ∀ w, Calls Tryz.prog 128 #[u1] w fun e w' => e = .returned (.agg #[.float .f64 X1, .float .f64 X2, .float .f64 X3, .float .f64 X4]) ∧ Below w.heap.size w w')
    (cb : ∀ w, Calls Tryz.prog 128 #[u2] w fun e w' => e = .returned (.agg #[.float .f64 Y1, .float .f64 Y2, .float .f64 Y3, .float .f64 Y4]) ∧ Below w.heap.size w w')
    (cf : ∀ w, Calls Tryz.prog 85 #[.agg #[.float .f64 X1, .float .f64 X2, .float .f64 X3, .float .f64 X4], .agg #[.float .f64 Y1, .float .f64 Y2, .float .f64 Y3, .float .f64 Y4]] w fun e w' => e = .returned (.agg #[.float .f64 e1, .float .f64 e2, .float .f64 e3, .float .f64 e4]) ∧ Below w.heap.size w w')
    (hn : 2 ≤ len) (hc : len ≤ 4611686018427387904)
    (w : World) (hp : w.cell? ⟨p, 0, none⟩ = some (.func (.func 85) #[] #[])) (h0 : w.cell? ⟨g, off, none⟩ = some u1) (h1 : w.cell? ⟨g, off + 1, none⟩ = some u2) :
    Calls Tryz.prog 127 #[.slice (some ⟨g, off, none⟩) len cap, .pointer (some ⟨p, 0, none⟩)] w fun e w' => e = .returned (.iface 121 (.agg #[.float .f64 e1, .float .f64 e2, .float .f64 e3, .float .f64 e4])) ∧ Below w.heap.size w w' := by
  have hn0 : (0 : Int) < (len : Int) := by omega
  have hn0n : 0 < len := by omega
  have hn1 : (1 : Int) < (len : Int) := by omega
  have hn1n : 1 < len := by omega
  go_enter Tryz.func127, Tryz.ntmps127
  go_wp2_with fail
  go_region_held3 (fun w' => w'.cell? ⟨p, 0, none⟩ = some (.func (.func 85) #[] #[]) ∧ w'.cell? ⟨g, off, none⟩ = some u1 ∧ w'.cell? ⟨g, off + 1, none⟩ = some u2) (((try dsimp only); (try go_split_ands); (repeat' apply And.intro) <;> first | (with_reducible assumption) | (with_reducible refine bkeep2 hb ?_; first | (with_reducible assumption) | (simp [*]; done)) | go_keep)) (first | (go_at_call 128; with_reducible refine (ca _).mono ?_; rintro e w' ⟨rfl, hb⟩) | (go_at_call 128; with_reducible refine (cb _).mono ?_; rintro e w' ⟨rfl, hb⟩) | (go_at_call 85; with_reducible refine (cf _).mono ?_; rintro e w' ⟨rfl, hb⟩))
  all_goals (go_wp2_with fail; go_ret; refine ⟨rfl, ?_⟩; repeat (with_reducible first | exact Below.refl _ _ | assumption | refine Below.drew ?_ | refine bl_drewN ?_ _ | refine Below.setCell ?_ (by first | omega | (simp; done) | (simp; omega)) _ | refine Below.alloc ?_ (by first | omega | (simp; done) | (simp; omega)) _ | refine bl_next ?_ (by assumption) | refine bl_trans ?_ (by assumption) (by first | omega | (simp; done) | (simp; omega))))

set_option maxRecDepth 100000 in
set_option maxHeartbeats 4000000 in
theorem sub_b_w (p g off len cap : Nat) (u1 u2 : Value) (X1 X2 X3 X4 Y1 Y2 Y3 Y4 e1 e2 e3 e4 : Nat)
    (ca : ∀ w, Calls Tryz.prog 128 #[u1] w fun e w' => e = .returned (.agg #[.float .f64 X1, .float .f64 X2, .float .f64 X3, .float .f64 X4]) ∧ Below w.heap.size w w')
    (cb : ∀ w, Calls Tryz.prog 128 #[u2] w fun e w' => e = .returned (.agg #[.float .f64 Y1, .float .f64 Y2, .float .f64 Y3, .float .f64 Y4]) ∧ Below w.heap.size w w')
    (cf : ∀ w, Calls Tryz.prog 86 #[.agg #[.float .f64 X1, .float .f64 X2, .float .f64 X3, .float .f64 X4], .agg #[.float .f64 Y1, .float .f64 Y2, .float .f64 Y3, .float .f64 Y4]] w fun e w' => e = .returned (.agg #[.float .f64 e1, .float .f64 e2, .float .f64 e3, .float .f64 e4]) ∧ Below w.heap.size w w')
    (hn : 2 ≤ len) (hc : len ≤ 4611686018427387904)
    (w : World) (hp : w.cell? ⟨p, 0, none⟩ = some (.func (.func 86) #[] #[])) (h0 : w.cell? ⟨g, off, none⟩ = some u1) (h1 : w.cell? ⟨g, off + 1, none⟩ = some u2) :
    Calls Tryz.prog 127 #[.slice (some ⟨g, off, none⟩) len cap, .pointer (some ⟨p, 0, none⟩)] w fun e w' => e = .returned (.iface 121 (.agg #[.float .f64 e1, .float .f64 e2, .float .f64 e3, .float .f64 e4])) ∧ Below w.heap.size w w' := by
  have hn0 : (0 : Int) < (len : Int) := by omega
  have hn0n : 0 < len := by omega
  have hn1 : (1 : Int) < (len : Int) := by omega
  have hn1n : 1 < len := by omega
  go_enter Tryz.func127, Tryz.ntmps127
  go_wp2_with fail
  go_region_held3 (fun w' => w'.cell? ⟨p, 0, none⟩ = some (.func (.func 86) #[] #[]) ∧ w'.cell? ⟨g, off, none⟩ = some u1 ∧ w'.cell? ⟨g, off + 1, none⟩ = some u2) (((try dsimp only); (try go_split_ands); (repeat' apply And.intro) <;> first | (with_reducible assumption) | (with_reducible refine bkeep2 hb ?_; first | (with_reducible assumption) | (simp [*]; done)) | go_keep)) (first | (go_at_call 128; with_reducible refine (ca _).mono ?_; rintro e w' ⟨rfl, hb⟩) | (go_at_call 128; with_reducible refine (cb _).mono ?_; rintro e w' ⟨rfl, hb⟩) | (go_at_call 86; with_reducible refine (cf _).mono ?_; rintro e w' ⟨rfl, hb⟩))
  all_goals (go_wp2_with fail; go_ret; refine ⟨rfl, ?_⟩; repeat (with_reducible first | exact Below.refl _ _ | assumption | refine Below.drew ?_ | refine bl_drewN ?_ _ | refine Below.setCell ?_ (by first | omega | (simp; done) | (simp; omega)) _ | refine Below.alloc ?_ (by first | omega | (simp; done) | (simp; omega)) _ | refine bl_next ?_ (by assumption) | refine bl_trans ?_ (by assumption) (by first | omega | (simp; done) | (simp; omega))))

set_option maxRecDepth 100000 in
set_option maxHeartbeats 4000000 in
theorem mul_b_w (p g off len cap : Nat) (u1 u2 : Value) (X1 X2 X3 X4 Y1 Y2 Y3 Y4 e1 e2 e3 e4 : Nat)
    (ca : ∀ w, Calls Tryz.prog 128 #[u1] w fun e w' => e = .returned (.agg #[.float .f64 X1, .float .f64 X2, .float .f64 X3, .float .f64 X4]) ∧ Below w.heap.size w w')
    (cb : ∀ w, Calls Tryz.prog 128 #[u2] w fun e w' => e = .returned (.agg #[.float .f64 Y1, .float .f64 Y2, .float .f64 Y3, .float .f64 Y4]) ∧ Below w.heap.size w w')
    (cf : ∀ w, Calls Tryz.prog 87 #[.agg #[.float .f64 X1, .float .f64 X2, .float .f64 X3, .float .f64 X4], .agg #[.float .f64 Y1, .float .f64 Y2, .float .f64 Y3, .float .f64 Y4]] w fun e w' => e = .returned (.agg #[.float .f64 e1, .float .f64 e2, .float .f64 e3, .float .f64 e4]) ∧ Below w.heap.size w w')
    (hn : 2 ≤ len) (hc : len ≤ 4611686018427387904)
    (w : World) (hp : w.cell? ⟨p, 0, none⟩ = some (.func (.func 87) #[] #[])) (h0 : w.cell? ⟨g, off, none⟩ = some u1) (h1 : w.cell? ⟨g, off + 1, none⟩ = some u2) :
    Calls Tryz.prog 127 #[.slice (some ⟨g, off, none⟩) len cap, .pointer (some ⟨p, 0, none⟩)] w fun e w' => e = .returned (.iface 121 (.agg #[.float .f64 e1, .float .f64 e2, .float .f64 e3, .float .f64 e4])) ∧ Below w.heap.size w w' := by
  have hn0 : (0 : Int) < (len : Int) := by omega
  have hn0n : 0 < len := by omega
  have hn1 : (1 : Int) < (len : Int) := by omega
  have hn1n : 1 < len := by omega
  go_enter Tryz.func127, Tryz.ntmps127
  go_wp2_with fail
  go_region_held3 (fun w' => w'.cell? ⟨p, 0, none⟩ = some (.func (.func 87) #[] #[]) ∧ w'.cell? ⟨g, off, none⟩ = some u1 ∧ w'.cell? ⟨g, off + 1, none⟩ = some u2) (((try dsimp only); (try go_split_ands); (repeat' apply And.intro) <;> first | (with_reducible assumption) | (with_reducible refine bkeep2 hb ?_; first | (with_reducible assumption) | (simp [*]; done)) | go_keep)) (first | (go_at_call 128; with_reducible refine (ca _).mono ?_; rintro e w' ⟨rfl, hb⟩) | (go_at_call 128; with_reducible refine (cb _).mono ?_; rintro e w' ⟨rfl, hb⟩) | (go_at_call 87; with_reducible refine (cf _).mono ?_; rintro e w' ⟨rfl, hb⟩))
  all_goals (go_wp2_with fail; go_ret; refine ⟨rfl, ?_⟩; repeat (with_reducible first | exact Below.refl _ _ | assumption | refine Below.drew ?_ | refine bl_drewN ?_ _ | refine Below.setCell ?_ (by first | omega | (simp; done) | (simp; omega)) _ | refine Below.alloc ?_ (by first | omega | (simp; done) | (simp; omega)) _ | refine bl_next ?_ (by assumption) | refine bl_trans ?_ (by assumption) (by first | omega | (simp; done) | (simp; omega))))

set_option maxRecDepth 100000 in
set_option maxHeartbeats 4000000 in
theorem conj_b_w (p g off len cap : Nat) (u1 : Value) (X1 X2 X3 X4 e1 e2 e3 e4 : Nat)
    (ca : ∀ w, Calls Tryz.prog 128 #[u1] w fun e w' => e = .returned (.agg #[.float .f64 X1, .float .f64 X2, .float .f64 X3, .float .f64 X4]) ∧ Below w.heap.size w w')
    (cf : ∀ w, Calls Tryz.prog 94 #[.agg #[.float .f64 X1, .float .f64 X2, .float .f64 X3, .float .f64 X4]] w fun e w' => e = .returned (.agg #[.float .f64 e1, .float .f64 e2, .float .f64 e3, .float .f64 e4]) ∧ Below w.heap.size w w')
    (hn : 1 ≤ len) (hc : len ≤ 4611686018427387904)
    (w : World) (hp : w.cell? ⟨p, 0, none⟩ = some (.func (.func 94) #[] #[])) (h0 : w.cell? ⟨g, off, none⟩ = some u1) :
    Calls Tryz.prog 131 #[.slice (some ⟨g, off, none⟩) len cap, .pointer (some ⟨p, 0, none⟩)] w fun e w' => e = .returned (.iface 121 (.agg #[.float .f64 e1, .float .f64 e2, .float .f64 e3, .float .f64 e4])) ∧ Below w.heap.size w w' := by
  have hn0 : (0 : Int) < (len : Int) := by omega
  have hn0n : 0 < len := by omega
  go_enter Tryz.func131, Tryz.ntmps131
  go_wp2_with fail
  go_region_held3 (fun w' => w'.cell? ⟨p, 0, none⟩ = some (.func (.func 94) #[] #[]) ∧ w'.cell? ⟨g, off, none⟩ = some u1) (((try dsimp only); (try go_split_ands); (repeat' apply And.intro) <;> first | (with_reducible assumption) | (with_reducible refine bkeep2 hb ?_; first | (with_reducible assumption) | (simp [*]; done)) | go_keep)) (first | (go_at_call 128; with_reducible refine (ca _).mono ?_; rintro e w' ⟨rfl, hb⟩) | (go_at_call 94; with_reducible refine (cf _).mono ?_; rintro e w' ⟨rfl, hb⟩))
  all_goals (go_wp2_with fail; go_ret; refine ⟨rfl, ?_⟩; repeat (with_reducible first | exact Below.refl _ _ | assumption | refine Below.drew ?_ | refine bl_drewN ?_ _ | refine Below.setCell ?_ (by first | omega | (simp; done) | (simp; omega)) _ | refine Below.alloc ?_ (by first | omega | (simp; done) | (simp; omega)) _ | refine bl_next ?_ (by assumption) | refine bl_trans ?_ (by assumption) (by first | omega | (simp; done) | (simp; omega))))

set_option maxRecDepth 100000 in
set_option maxHeartbeats 4000000 in
theorem sqr_b_w (p g off len cap q : Nat) (u1 : Value) (X1 X2 X3 X4 e1 e2 e3 e4 : Nat)
    (ca : ∀ w, Calls Tryz.prog 128 #[u1] w fun e w' => e = .returned (.agg #[.float .f64 X1, .float .f64 X2, .float .f64 X3, .float .f64 X4]) ∧ Below w.heap.size w w')
    (cf : ∀ w, w.cell? ⟨q, 0, none⟩ = some (.func (.func 87) #[] #[]) → Calls Tryz.prog 137 #[.agg #[.float .f64 X1, .float .f64 X2, .float .f64 X3, .float .f64 X4], .pointer (some ⟨q, 0, none⟩)] w fun e w' => e = .returned (.agg #[.float .f64 e1, .float .f64 e2, .float .f64 e3, .float .f64 e4]) ∧ Below w.heap.size w w')
    (hn : 1 ≤ len) (hc : len ≤ 4611686018427387904)
    (w : World) (hp : w.cell? ⟨p, 0, none⟩ = some (.func (.func 137) #[] #[.pointer (some ⟨q, 0, none⟩)])) (h0 : w.cell? ⟨g, off, none⟩ = some u1) (hq : w.cell? ⟨q, 0, none⟩ = some (.func (.func 87) #[] #[])) :
    Calls Tryz.prog 131 #[.slice (some ⟨g, off, none⟩) len cap, .pointer (some ⟨p, 0, none⟩)] w fun e w' => e = .returned (.iface 121 (.agg #[.float .f64 e1, .float .f64 e2, .float .f64 e3, .float .f64 e4])) ∧ Below w.heap.size w w' := by
  have hn0 : (0 : Int) < (len : Int) := by omega
  have hn0n : 0 < len := by omega
  go_enter Tryz.func131, Tryz.ntmps131
  go_wp2_with fail
  go_region_held3 (fun w' => w'.cell? ⟨p, 0, none⟩ = some (.func (.func 137) #[] #[.pointer (some ⟨q, 0, none⟩)]) ∧ w'.cell? ⟨g, off, none⟩ = some u1 ∧ w'.cell? ⟨q, 0, none⟩ = some (.func (.func 87) #[] #[])) (((try dsimp only); (try go_split_ands); (repeat' apply And.intro) <;> first | (with_reducible assumption) | (with_reducible refine bkeep2 hb ?_; first | (with_reducible assumption) | (simp [*]; done)) | go_keep)) (first | (go_at_call 128; with_reducible refine (ca _).mono ?_; rintro e w' ⟨rfl, hb⟩) | (go_at_call 137; with_reducible refine (cf _ (by first | (with_reducible assumption) | (simp [*]; done))).mono ?_; rintro e w' ⟨rfl, hb⟩))
  all_goals (go_wp2_with fail; go_ret; refine ⟨rfl, ?_⟩; repeat (with_reducible first | exact Below.refl _ _ | assumption | refine Below.drew ?_ | refine bl_drewN ?_ _ | refine Below.setCell ?_ (by first | omega | (simp; done) | (simp; omega)) _ | refine Below.alloc ?_ (by first | omega | (simp; done) | (simp; omega)) _ | refine bl_next ?_ (by assumption) | refine bl_trans ?_ (by assumption) (by first | omega | (simp; done) | (simp; omega))))

set_option maxRecDepth 100000 in
set_option maxHeartbeats 4000000 in
theorem twice_d_w (q : Nat) (x1 x2 x3 e1 e2 e3 : Nat)
    (cf : ∀ w, Calls Tryz.prog 91 #[.agg #[.complex .f64 x1 x2, .float .f64 x3], .agg #[.complex .f64 x1 x2, .float .f64 x3]] w fun e w' => e = .returned (.agg #[.complex .f64 e1 e2, .float .f64 e3]) ∧ Below w.heap.size w w')
    (w : World) (hq : w.cell? ⟨q, 0, none⟩ = some (.func (.func 91) #[] #[])) :
    Calls Tryz.prog 138 #[.agg #[.complex .f64 x1 x2, .float .f64 x3], .pointer (some ⟨q, 0, none⟩)] w fun e w' => e = .returned (.agg #[.complex .f64 e1 e2, .float .f64 e3]) ∧ Below w.heap.size w w' := by
  have lq : q < w.heap.size := cell_lt hq
  go_enter Tryz.func138, Tryz.ntmps138
  go_wp2_with fail
  obtain ⟨w0, hw0⟩ : ∃ v, v = ((w.alloc (.cells #[.complex .f64 x1 x2, .float .f64 x3] 42)).alloc (.cells #[.complex .f64 0 0, .float .f64 0] 42)) := ⟨_, rfl⟩
  rw [← hw0]
  have c00 : w0.cell? ⟨w.heap.size, 0, none⟩ = some (.complex .f64 x1 x2) := by simp [hw0, go_sem]
  have c01 : w0.cell? ⟨w.heap.size, 1, none⟩ = some (.float .f64 x3) := by simp [hw0, go_sem]
  have c10 : w0.cell? ⟨w.heap.size + 1, 0, none⟩ = some (.complex .f64 0 0) := by simp [hw0, go_sem]
  have fc10 : w0.frozen? ⟨w.heap.size + 1, 0, none⟩ = false := by simp [hw0, go_sem]
  have c11 : w0.cell? ⟨w.heap.size + 1, 1, none⟩ = some (.float .f64 0) := by simp [hw0, go_sem]
  have fc11 : w0.frozen? ⟨w.heap.size + 1, 1, none⟩ = false := by simp [hw0, go_sem]
  have s0 : w.heap.size + 1 + 1 ≤ w0.heap.size := by simp [hw0]
  have hB0 : Below w.heap.size w w0 := by
    rw [hw0]
    repeat (with_reducible first | exact Below.refl _ _ | assumption | refine Below.drew ?_ | refine bl_drewN ?_ _ | refine Below.setCell ?_ (by first | omega | (simp; done) | (simp; omega)) _ | refine Below.alloc ?_ (by first | omega | (simp; done) | (simp; omega)) _ | refine bl_next ?_ (by assumption) | refine bl_trans ?_ (by assumption) (by first | omega | (simp; done) | (simp; omega)))
  clear hw0
  go_at_call 91
  refine (cf _).mono ?_
  rintro e w1 ⟨rfl, hb1⟩
  have s1 := hb1.size
  try simp at s1
  replace fc10 := bfroz2 hb1 c10 fc10
  replace fc11 := bfroz2 hb1 c11 fc11
  replace c00 := bkeep2 hb1 c00
  replace c01 := bkeep2 hb1 c01
  replace c10 := bkeep2 hb1 c10
  replace c11 := bkeep2 hb1 c11
  have l0 : w.heap.size < w1.heap.size := cell_lt c00
  have l1 : w.heap.size + 1 < w1.heap.size := cell_lt c10
  go_wp2_with fail
  refine bodyPost_ret (v := .agg #[.complex .f64 e1 e2, .float .f64 e3]) (by simp [results, Tryz.results138, go_sem, *]) rfl ⟨rfl, ?_⟩
  repeat (with_reducible first | exact Below.refl _ _ | assumption | refine Below.drew ?_ | refine bl_drewN ?_ _ | refine Below.setCell ?_ (by first | omega | (simp; done) | (simp; omega)) _ | refine Below.alloc ?_ (by first | omega | (simp; done) | (simp; omega)) _ | refine bl_next ?_ (by assumption) | refine bl_trans ?_ (by assumption) (by first | omega | (simp; done) | (simp; omega)))

set_option maxRecDepth 100000 in
set_option maxHeartbeats 4000000 in
theorem add_d_w (p g off len cap : Nat) (u1 u2 : Value) (x1 x2 x3 y1 y2 y3 e1 e2 e3 : Nat)
    (ca : ∀ w, Calls Tryz.prog 130 #[u1] w fun e w' => e = .returned (.agg #[.complex .f64 x1 x2, .float .f64 x3]) ∧ Below w.heap.size w w')
    (cb : ∀ w, Calls Tryz.prog 130 #[u2] w fun e w' => e = .returned (.agg #[.complex .f64 y1 y2, .float .f64 y3]) ∧ Below w.heap.size w w')
    (cf : ∀ w, Calls Tryz.prog 89 #[.agg #[.complex .f64 x1 x2, .float .f64 x3], .agg #[.complex .f64 y1 y2, .float .f64 y3]] w fun e w' => e = .returned (.agg #[.complex .f64 e1 e2, .float .f64 e3]) ∧ Below w.heap.size w w')
    (hn : 2 ≤ len) (hc : len ≤ 4611686018427387904)
    (w : World) (hp : w.cell? ⟨p, 0, none⟩ = some (.func (.func 89) #[] #[])) (h0 : w.cell? ⟨g, off, none⟩ = some u1) (h1 : w.cell? ⟨g, off + 1, none⟩ = some u2) :
    Calls Tryz.prog 129 #[.slice (some ⟨g, off, none⟩) len cap, .pointer (some ⟨p, 0, none⟩)] w fun e w' => e = .returned (.iface 124 (.agg #[.complex .f64 e1 e2, .float .f64 e3])) ∧ Below w.heap.size w w' := by
  have hn0 : (0 : Int) < (len : Int) := by omega
  have hn0n : 0 < len := by omega
  have hn1 : (1 : Int) < (len : Int) := by omega
  have hn1n : 1 < len := by omega
  go_enter Tryz.func129, Tryz.ntmps129
  go_wp2_with fail
  go_region_held3 (fun w' => w'.cell? ⟨p, 0, none⟩ = some (.func (.func 89) #[] #[]) ∧ w'.cell? ⟨g, off, none⟩ = some u1 ∧ w'.cell? ⟨g, off + 1, none⟩ = some u2) (((try dsimp only); (try go_split_ands); (repeat' apply And.intro) <;> first | (with_reducible assumption) | (with_reducible refine bkeep2 hb ?_; first | (with_reducible assumption) | (simp [*]; done)) | go_keep)) (first | (go_at_call 130; with_reducible refine (ca _).mono ?_; rintro e w' ⟨rfl, hb⟩) | (go_at_call 130; with_reducible refine (cb _).mono ?_; rintro e w' ⟨rfl, hb⟩) | (go_at_call 89; with_reducible refine (cf _).mono ?_; rintro e w' ⟨rfl, hb⟩))
  all_goals (go_wp2_with fail; go_ret; refine ⟨rfl, ?_⟩; repeat (with_reducible first | exact Below.refl _ _ | assumption | refine Below.drew ?_ | refine bl_drewN ?_ _ | refine Below.setCell ?_ (by first | omega | (simp; done) | (simp; omega)) _ | refine Below.alloc ?_ (by first | omega | (simp; done) | (simp; omega)) _ | refine bl_next ?_ (by assumption) | refine bl_trans ?_ (by assumption) (by first | omega | (simp; done) | (simp; omega))))

set_option maxRecDepth 100000 in
set_option maxHeartbeats 4000000 in
theorem sub_d_w (p g off len cap : Nat) (u1 u2 : Value) (x1 x2 x3 y1 y2 y3 e1 e2 e3 : Nat)
    (ca : ∀ w, Calls Tryz.prog 130 #[u1] w fun e w' => e = .returned (.agg #[.complex .f64 x1 x2, .float .f64 x3]) ∧ Below w.heap.size w w')
    (cb : ∀ w, Calls Tryz.prog 130 #[u2] w fun e w' => e = .returned (.agg #[.complex .f64 y1 y2, .float .f64 y3]) ∧ Below w.heap.size w w')
    (cf : ∀ w, Calls Tryz.prog 90 #[.agg #[.complex .f64 x1 x2, .float .f64 x3], .agg #[.complex .f64 y1 y2, .float .f64 y3]] w fun e w' => e = .returned (.agg #[.complex .f64 e1 e2, .float .f64 e3]) ∧ Below w.heap.size w w')
    (hn : 2 ≤ len) (hc : len ≤ 4611686018427387904)
    (w : World) (hp : w.cell? ⟨p, 0, none⟩ = some (.func (.func 90) #[] #[])) (h0 : w.cell? ⟨g, off, none⟩ = some u1) (h1 : w.cell? ⟨g, off + 1, none⟩ = some u2) :
    Calls Tryz.prog 129 #[.slice (some ⟨g, off, none⟩) len cap, .pointer (some ⟨p, 0, none⟩)] w fun e w' => e = .returned (.iface 124 (.agg #[.complex .f64 e1 e2, .float .f64 e3])) ∧ Below w.heap.size w w' := by
  have hn0 : (0 : Int) < (len : Int) := by omega
  have hn0n : 0 < len := by omega
  have hn1 : (1 : Int) < (len : Int) := by omega
  have hn1n : 1 < len := by omega
  go_enter Tryz.func129, Tryz.ntmps129
  go_wp2_with fail
  go_region_held3 (fun w' => w'.cell? ⟨p, 0, none⟩ = some (.func (.func 90) #[] #[]) ∧ w'.cell? ⟨g, off, none⟩ = some u1 ∧ w'.cell? ⟨g, off + 1, none⟩ = some u2) (((try dsimp only); (try go_split_ands); (repeat' apply And.intro) <;> first | (with_reducible assumption) | (with_reducible refine bkeep2 hb ?_; first | (with_reducible assumption) | (simp [*]; done)) | go_keep)) (first | (go_at_call 130; with_reducible refine (ca _).mono ?_; rintro e w' ⟨rfl, hb⟩) | (go_at_call 130; with_reducible refine (cb _).mono ?_; rintro e w' ⟨rfl, hb⟩) | (go_at_call 90; with_reducible refine (cf _).mono ?_; rintro e w' ⟨rfl, hb⟩))
  all_goals (go_wp2_with fail; go_ret; refine ⟨rfl, ?_⟩; repeat (with_reducible first | exact Below.refl _ _ | assumption | refine Below.drew ?_ | refine bl_drewN ?_ _ | refine Below.setCell ?_ (by first | omega | (simp; done) | (simp; omega)) _ | refine Below.alloc ?_ (by first | omega | (simp; done) | (simp; omega)) _ | refine bl_next ?_ (by assumption) | refine bl_trans ?_ (by assumption) (by first | omega | (simp; done) | (simp; omega))))

set_option maxRecDepth 100000 in
set_option maxHeartbeats 4000000 in
theorem mul_d_w (p g off len cap : Nat) (u1 u2 : Value) (x1 x2 x3 y1 y2 y3 e1 e2 e3 : Nat)
    (ca : ∀ w, Calls Tryz.prog 130 #[u1] w fun e w' => e = .returned (.agg #[.complex .f64 x1 x2, .float .f64 x3]) ∧ Below w.heap.size w w')
    (cb : ∀ w, Calls Tryz.prog 130 #[u2] w fun e w' => e = .returned (.agg #[.complex .f64 y1 y2, .float .f64 y3]) ∧ Below w.heap.size w w')
    (cf : ∀ w, Calls Tryz.prog 91 #[.agg #[.complex .f64 x1 x2, .float .f64 x3], .agg #[.complex .f64 y1 y2, .float .f64 y3]] w fun e w' => e = .returned (.agg #[.complex .f64 e1 e2, .float .f64 e3]) ∧ Below w.heap.size w w')
    (hn : 2 ≤ len) (hc : len ≤ 4611686018427387904)
    (w : World) (hp : w.cell? ⟨p, 0, none⟩ = some (.func (.func 91) #[] #[])) (h0 : w.cell? ⟨g, off, none⟩ = some u1) (h1 : w.cell? ⟨g, off + 1, none⟩ = some u2) :
    Calls Tryz.prog 129 #[.slice (some ⟨g, off, none⟩) len cap, .pointer (some ⟨p, 0, none⟩)] w fun e w' => e = .returned (.iface 124 (.agg #[.complex .f64 e1 e2, .float .f64 e3])) ∧ Below w.heap.size w w' := by
  have hn0 : (0 : Int) < (len : Int) := by omega
  have hn0n : 0 < len := by omega
  have hn1 : (1 : Int) < (len : Int) := by omega
  have hn1n : 1 < len := by omega
  go_enter Tryz.func129, Tryz.ntmps129
  go_wp2_with fail
  go_region_held3 (fun w' => w'.cell? ⟨p, 0, none⟩ = some (.func (.func 91) #[] #[]) ∧ w'.cell? ⟨g, off, none⟩ = some u1 ∧ w'.cell? ⟨g, off + 1, none⟩ = some u2) (((try dsimp only); (try go_split_ands); (repeat' apply And.intro) <;> first | (with_reducible assumption) | (with_reducible refine bkeep2 hb ?_; first | (with_reducible assumption) | (simp [*]; done)) | go_keep)) (first | (go_at_call 130; with_reducible refine (ca _).mono ?_; rintro e w' ⟨rfl, hb⟩) | (go_at_call 130; with_reducible refine (cb _).mono ?_; rintro e w' ⟨rfl, hb⟩) | (go_at_call 91; with_reducible refine (cf _).mono ?_; rintro e w' ⟨rfl, hb⟩))
  all_goals (go_wp2_with fail; go_ret; refine ⟨rfl, ?_⟩; repeat (with_reducible first | exact Below.refl _ _ | assumption | refine Below.drew ?_ | refine bl_drewN ?_ _ | refine Below.setCell ?_ (by first | omega | (simp; done) | (simp; omega)) _ | refine Below.alloc ?_ (by first | omega | (simp; done) | (simp; omega)) _ | refine bl_next ?_ (by assumption) | refine bl_trans ?_ (by assumption) (by first | omega | (simp; done) | (simp; omega))))

set_option maxRecDepth 100000 in
set_option maxHeartbeats 4000000 in
theorem conj_d_w (p g off len cap : Nat) (u1 : Value) (x1 x2 x3 e1 e2 e3 : Nat)
    (ca : ∀ w, Calls Tryz.prog 130 #[u1] w fun e w' => e = .returned (.agg #[.complex .f64 x1 x2, .float .f64 x3]) ∧ Below w.heap.size w w')
    (cf : ∀ w, Calls Tryz.prog 95 #[.agg #[.complex .f64 x1 x2, .float .f64 x3]] w fun e w' => e = .returned (.agg #[.complex .f64 e1 e2, .float .f64 e3]) ∧ Below w.heap.size w w')
    (hn : 1 ≤ len) (hc : len ≤ 4611686018427387904)
    (w : World) (hp : w.cell? ⟨p, 0, none⟩ = some (.func (.func 95) #[] #[])) (h0 : w.cell? ⟨g, off, none⟩ = some u1) :
    Calls Tryz.prog 132 #[.slice (some ⟨g, off, none⟩) len cap, .pointer (some ⟨p, 0, none⟩)] w fun e w' => e = .returned (.iface 124 (.agg #[.complex .f64 e1 e2, .float .f64 e3])) ∧ Below w.heap.size w w' := by
  have hn0 : (0 : Int) < (len : Int) := by omega
  have hn0n : 0 < len := by omega
  go_enter Tryz.func132, Tryz.ntmps132
  go_wp2_with fail
  go_region_held3 (fun w' => w'.cell? ⟨p, 0, none⟩ = some (.func (.func 95) #[] #[]) ∧ w'.cell? ⟨g, off, none⟩ = some u1) (((try dsimp only); (try go_split_ands); (repeat' apply And.intro) <;> first | (with_reducible assumption) | (with_reducible refine bkeep2 hb ?_; first | (with_reducible assumption) | (simp [*]; done)) | go_keep)) (first | (go_at_call 130; with_reducible refine (ca _).mono ?_; rintro e w' ⟨rfl, hb⟩) | (go_at_call 95; with_reducible refine (cf _).mono ?_; rintro e w' ⟨rfl, hb⟩))
  all_goals (go_wp2_with fail; go_ret; refine ⟨rfl, ?_⟩; repeat (with_reducible first | exact Below.refl _ _ | assumption | refine Below.drew ?_ | refine bl_drewN ?_ _ | refine Below.setCell ?_ (by first | omega | (simp; done) | (simp; omega)) _ | refine Below.alloc ?_ (by first | omega | (simp; done) | (simp; omega)) _ | refine bl_next ?_ (by assumption) | refine bl_trans ?_ (by assumption) (by first | omega | (simp; done) | (simp; omega))))

set_option maxRecDepth 100000 in
set_option maxHeartbeats 4000000 in
theorem sqr_d_w (p g off len cap q : Nat) (u1 : Value) (x1 x2 x3 e1 e2 e3 : Nat)
    (ca : ∀ w, Calls Tryz.prog 130 #[u1] w fun e w' => e = .returned (.agg #[.complex .f64 x1 x2, .float .f64 x3]) ∧ Below w.heap.size w w')
    (cf : ∀ w, w.cell? ⟨q, 0, none⟩ = some (.func (.func 91) #[] #[]) → Calls Tryz.prog 138 #[.agg #[.complex .f64 x1 x2, .float .f64 x3], .pointer (some ⟨q, 0, none⟩)] w fun e w' => e = .returned (.agg #[.complex .f64 e1 e2, .float .f64 e3]) ∧ Below w.heap.size w w')
    (hn : 1 ≤ len) (hc : len ≤ 4611686018427387904)
    (w : World) (hp : w.cell? ⟨p, 0, none⟩ = some (.func (.func 138) #[] #[.pointer (some ⟨q, 0, none⟩)])) (h0 : w.cell? ⟨g, off, none⟩ = some u1) (hq : w.cell? ⟨q, 0, none⟩ = some (.func (.func 91) #[] #[])) :
    Calls Tryz.prog 132 #[.slice (some ⟨g, off, none⟩) len cap, .pointer (some ⟨p, 0, none⟩)] w fun e w' => e = .returned (.iface 124 (.agg #[.complex .f64 e1 e2, .float .f64 e3])) ∧ Below w.heap.size w w' := by
  have hn0 : (0 : Int) < (len : Int) := by omega
  have hn0n : 0 < len := by omega
  go_enter Tryz.func132, Tryz.ntmps132
  go_wp2_with fail
  go_region_held3 (fun w' => w'.cell? ⟨p, 0, none⟩ = some (.func (.func 138) #[] #[.pointer (some ⟨q, 0, none⟩)]) ∧ w'.cell? ⟨g, off, none⟩ = some u1 ∧ w'.cell? ⟨q, 0, none⟩ = some (.func (.func 91) #[] #[])) (((try dsimp only); (try go_split_ands); (repeat' apply And.intro) <;> first | (with_reducible assumption) | (with_reducible refine bkeep2 hb ?_; first | (with_reducible assumption) | (simp [*]; done)) | go_keep)) (first | (go_at_call 130; with_reducible refine (ca _).mono ?_; rintro e w' ⟨rfl, hb⟩) | (go_at_call 138; with_reducible refine (cf _ (by first | (with_reducible assumption) | (simp [*]; done))).mono ?_; rintro e w' ⟨rfl, hb⟩))
  all_goals (go_wp2_with fail; go_ret; refine ⟨rfl, ?_⟩; repeat (with_reducible first | exact Below.refl _ _ | assumption | refine Below.drew ?_ | refine bl_drewN ?_ _ | refine Below.setCell ?_ (by first | omega | (simp; done) | (simp; omega)) _ | refine Below.alloc ?_ (by first | omega | (simp; done) | (simp; omega)) _ | refine bl_next ?_ (by assumption) | refine bl_trans ?_ (by assumption) (by first | omega | (simp; done) | (simp; omega))))

end Go.Proofs.YtacnclofbnafiabGreatDoor

namespace Go.Proofs.YtacnclofbnafiabGreatDoor
open Go.RowKit Fl

@[go_sem] theorem run_store_func {P : Program} {w : World} {a : Addr} {m : Mode} (f : Fn) (x y : Array Value) : (store a (.func f x y) m).run P w = stored P w a (.func f x y) m := run_store P w a _ m rfl
set_option maxRecDepth 100000 in
set_option maxHeartbeats 2000000 in
theorem ofTwo_w (sg : Int) (f1 f2 : Fn) (x1 x2 y1 y2 : Array Value) (w : World) : Calls Tryz.prog 92 #[.int .u8 sg, .func f1 x1 y1, .func f2 x2 y2] w fun e w' => e = .returned (.agg #[.int .u8 sg, .int .i64 2, .func (.func 127) #[] #[.pointer (some ⟨w.heap.size, 0, none⟩)], .func (.func 129) #[] #[.pointer (some ⟨w.heap.size + 1, 0, none⟩)]]) ∧ w' = ((w.alloc (.cells #[.func f1 x1 y1] 99)).alloc (.cells #[.func f2 x2 y2] 112)).alloc (.cells #[.int .u8 sg, .int .i64 2, .func (.func 127) #[] #[.pointer (some ⟨w.heap.size, 0, none⟩)], .func (.func 129) #[] #[.pointer (some ⟨w.heap.size + 1, 0, none⟩)]] 158) := by
  go_enter Tryz.func92, Tryz.ntmps92
  go_wp2_with fail
  exact bodyPost_ret (v := .agg #[.int .u8 sg, .int .i64 2, .func (.func 127) #[] #[.pointer (some ⟨w.heap.size, 0, none⟩)], .func (.func 129) #[] #[.pointer (some ⟨w.heap.size + 1, 0, none⟩)]]) (by simp [results, Tryz.results92, go_sem, *]) rfl ⟨rfl, rfl⟩
set_option maxRecDepth 100000 in
set_option maxHeartbeats 2000000 in
theorem ofOne_w (sg : Int) (f1 f2 : Fn) (x1 x2 y1 y2 : Array Value) (w : World) : Calls Tryz.prog 93 #[.int .u8 sg, .func f1 x1 y1, .func f2 x2 y2] w fun e w' => e = .returned (.agg #[.int .u8 sg, .int .i64 1, .func (.func 131) #[] #[.pointer (some ⟨w.heap.size, 0, none⟩)], .func (.func 132) #[] #[.pointer (some ⟨w.heap.size + 1, 0, none⟩)]]) ∧ w' = ((w.alloc (.cells #[.func f1 x1 y1] 100)).alloc (.cells #[.func f2 x2 y2] 161)).alloc (.cells #[.int .u8 sg, .int .i64 1, .func (.func 131) #[] #[.pointer (some ⟨w.heap.size, 0, none⟩)], .func (.func 132) #[] #[.pointer (some ⟨w.heap.size + 1, 0, none⟩)]] 158) := by
  go_enter Tryz.func93, Tryz.ntmps93
  go_wp2_with fail
  exact bodyPost_ret (v := .agg #[.int .u8 sg, .int .i64 1, .func (.func 131) #[] #[.pointer (some ⟨w.heap.size, 0, none⟩)], .func (.func 132) #[] #[.pointer (some ⟨w.heap.size + 1, 0, none⟩)]]) (by simp [results, Tryz.results93, go_sem, *]) rfl ⟨rfl, rfl⟩
set_option maxRecDepth 100000 in
theorem twiceB_w (f1 : Fn) (x1 y1 : Array Value) (w : World) : Calls Tryz.prog 96 #[.func f1 x1 y1] w fun e w' => e = .returned (.func (.func 137) #[] #[.pointer (some ⟨w.heap.size, 0, none⟩)]) ∧ w' = w.alloc (.cells #[.func f1 x1 y1] 99) := by
  go_enter Tryz.func96, Tryz.ntmps96
  go_wp2_with fail
  go_ret
  exact ⟨rfl, rfl⟩
set_option maxRecDepth 100000 in
theorem twiceD_w (f1 : Fn) (x1 y1 : Array Value) (w : World) : Calls Tryz.prog 97 #[.func f1 x1 y1] w fun e w' => e = .returned (.func (.func 138) #[] #[.pointer (some ⟨w.heap.size, 0, none⟩)]) ∧ w' = w.alloc (.cells #[.func f1 x1 y1] 112) := by
  go_enter Tryz.func97, Tryz.ntmps97
  go_wp2_with fail
  go_ret
  exact ⟨rfl, rfl⟩
/-- The table of operations: at block g; p, q: where the closures' functions lie. -/
structure Tab (w : World) (g : Nat) (p q : Nat → Nat) : Prop where
  s0 : w.cell? ⟨g, 0, none⟩ = some (.int .u8 43)
  n0 : w.cell? ⟨g, 1, none⟩ = some (.int .i64 2)
  b0 : w.cell? ⟨g, 2, none⟩ = some (.func (.func 127) #[] #[.pointer (some ⟨p 0, 0, none⟩)])
  d0 : w.cell? ⟨g, 3, none⟩ = some (.func (.func 129) #[] #[.pointer (some ⟨p 1, 0, none⟩)])
  p0 : w.cell? ⟨p 0, 0, none⟩ = some (.func (.func 85) #[] #[])
  p1 : w.cell? ⟨p 1, 0, none⟩ = some (.func (.func 89) #[] #[])
  s1 : w.cell? ⟨g, 4, none⟩ = some (.int .u8 45)
  n1 : w.cell? ⟨g, 5, none⟩ = some (.int .i64 2)
  b1 : w.cell? ⟨g, 6, none⟩ = some (.func (.func 127) #[] #[.pointer (some ⟨p 2, 0, none⟩)])
  d1 : w.cell? ⟨g, 7, none⟩ = some (.func (.func 129) #[] #[.pointer (some ⟨p 3, 0, none⟩)])
  p2 : w.cell? ⟨p 2, 0, none⟩ = some (.func (.func 86) #[] #[])
  p3 : w.cell? ⟨p 3, 0, none⟩ = some (.func (.func 90) #[] #[])
  s2 : w.cell? ⟨g, 8, none⟩ = some (.int .u8 42)
  n2 : w.cell? ⟨g, 9, none⟩ = some (.int .i64 2)
  b2 : w.cell? ⟨g, 10, none⟩ = some (.func (.func 127) #[] #[.pointer (some ⟨p 4, 0, none⟩)])
  d2 : w.cell? ⟨g, 11, none⟩ = some (.func (.func 129) #[] #[.pointer (some ⟨p 5, 0, none⟩)])
  p4 : w.cell? ⟨p 4, 0, none⟩ = some (.func (.func 87) #[] #[])
  p5 : w.cell? ⟨p 5, 0, none⟩ = some (.func (.func 91) #[] #[])
  s3 : w.cell? ⟨g, 12, none⟩ = some (.int .u8 126)
  n3 : w.cell? ⟨g, 13, none⟩ = some (.int .i64 1)
  b3 : w.cell? ⟨g, 14, none⟩ = some (.func (.func 131) #[] #[.pointer (some ⟨p 6, 0, none⟩)])
  d3 : w.cell? ⟨g, 15, none⟩ = some (.func (.func 132) #[] #[.pointer (some ⟨p 7, 0, none⟩)])
  p6 : w.cell? ⟨p 6, 0, none⟩ = some (.func (.func 94) #[] #[])
  p7 : w.cell? ⟨p 7, 0, none⟩ = some (.func (.func 95) #[] #[])
  s4 : w.cell? ⟨g, 16, none⟩ = some (.int .u8 94)
  n4 : w.cell? ⟨g, 17, none⟩ = some (.int .i64 1)
  b4 : w.cell? ⟨g, 18, none⟩ = some (.func (.func 131) #[] #[.pointer (some ⟨p 8, 0, none⟩)])
  d4 : w.cell? ⟨g, 19, none⟩ = some (.func (.func 132) #[] #[.pointer (some ⟨p 9, 0, none⟩)])
  p8 : w.cell? ⟨p 8, 0, none⟩ = some (.func (.func 137) #[] #[.pointer (some ⟨q 0, 0, none⟩)])
  p9 : w.cell? ⟨p 9, 0, none⟩ = some (.func (.func 138) #[] #[.pointer (some ⟨q 1, 0, none⟩)])
  q0 : w.cell? ⟨q 0, 0, none⟩ = some (.func (.func 87) #[] #[])
  q1 : w.cell? ⟨q 1, 0, none⟩ = some (.func (.func 91) #[] #[])
theorem Tab.below {w w' : World} {B g : Nat} {p q : Nat → Nat} (h : Tab w g p q) (hB : w.heap.size ≤ B) (hb : Below B w w') : Tab w' g p q := by
  have k : ∀ {a : Addr} {v : Value}, w.cell? a = some v → w'.cell? a = some v := fun {a} {v} e => by
    rw [hb.cell (Nat.lt_of_lt_of_le (cell_lt e) hB), e]
  exact ⟨k h.s0, k h.n0, k h.b0, k h.d0, k h.p0, k h.p1, k h.s1, k h.n1, k h.b1, k h.d1, k h.p2, k h.p3, k h.s2, k h.n2, k h.b2, k h.d2, k h.p4, k h.p5, k h.s3, k h.n3, k h.b3, k h.d3, k h.p6, k h.p7, k h.s4, k h.n4, k h.b4, k h.d4, k h.p8, k h.p9, k h.q0, k h.q1⟩
def tp (b : Nat) : Nat → Nat := fun k => match k with | 0 => b | 1 => b + 1 | 2 => b + 3 | 3 => b + 4 | 4 => b + 6 | 5 => b + 7 | 6 => b + 9 | 7 => b + 10 | 8 => b + 14 | _ => b + 15
def tq (b : Nat) : Nat → Nat := fun k => match k with | 0 => b + 12 | _ => b + 13
set_option maxRecDepth 100000 in
set_option maxHeartbeats 8000000 in
theorem operations_any (w : World) : Calls Tryz.prog 67 #[] w fun e w' => e = .returned (.slice (some ⟨w.heap.size + 17, 0, none⟩) 5 5) ∧ Tab w' (w.heap.size + 17) (tp w.heap.size) (tq w.heap.size) ∧ Below w.heap.size w w' := by
  go_enter Tryz.func67, Tryz.ntmps67
  go_wp2_with (first
    | (go_at_call 92; refine (ofTwo_w _ _ _ _ _ _ _ _).mono ?_; rintro e w' ⟨rfl, rfl⟩)
    | (go_at_call 93; refine (ofOne_w _ _ _ _ _ _ _ _).mono ?_; rintro e w' ⟨rfl, rfl⟩)
    | (go_at_call 96; refine (twiceB_w _ _ _ _).mono ?_; rintro e w' ⟨rfl, rfl⟩)
    | (go_at_call 97; refine (twiceD_w _ _ _ _).mono ?_; rintro e w' ⟨rfl, rfl⟩))
  go_ret
  refine ⟨rfl, ?_, ?_⟩
  · constructor <;> simp [go_sem, tp, tq]
  · repeat (first | exact Below.refl _ _ | refine bl_alloc ?_)
end Go.Proofs.YtacnclofbnafiabGreatDoor
