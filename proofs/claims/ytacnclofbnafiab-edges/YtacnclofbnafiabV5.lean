import Derived.Test.YtacnclofbnafiabV4
namespace Go.Proofs.Ytacnclofbnafiab
open Go.RowKit Fl

set_option maxRecDepth 100000 in
set_option maxHeartbeats 8000000 in
theorem edges_fn_w (v : Value) (f : Nat → Nat) (bb : Bool)
    (pa : ∀ w, Calls Try.prog 15 #[.agg #[.complex .f64 (f 0) (f 1), .float .f64 (f 2)]] w fun e w' => e = .returned (.bool false) ∧ Below w.heap.size w w')
    (pb : ∀ w, Calls Try.prog 15 #[.agg #[.complex .f64 (f 3) (f 4), .float .f64 (f 5)]] w fun e w' => e = .returned (.bool bb) ∧ Below w.heap.size w w')
    (t1 t2 t3 : Nat)
    (ba : ∀ w, Calls Try.prog 9 #[.agg #[.float .f64 (f 6), .float .f64 (f 7), .float .f64 (f 8), .float .f64 (f 9)]] w fun e w' => e = .returned (.bool true) ∧ Below w.heap.size w w')
    (td : ∀ w, Calls Try.prog 10 #[.agg #[.float .f64 (f 6), .float .f64 (f 7), .float .f64 (f 8), .float .f64 (f 9)]] w fun e w' => e = .returned (.agg #[.complex .f64 t1 t2, .float .f64 t3]) ∧ Below w.heap.size w w')
    (om : (Ieee.double.order t3 13830554455654793216 == some .eq) = true)
    (w : World) (hl : Lst w v f) :
    Calls Try.prog 4 #[v] w fun e w' => e = .returned (.bool true) ∧ Below w.heap.size w w' := by
  go_enter Try.func4, Try.ntmps4
  go_wp2_with fail
  go_at_call 5
  refine (disc0_w v f _ hl).mono ?_
  rintro e w1 ⟨rfl, hb1⟩
  have s1 := hb1.size
  try simp at s1
  have hl1 := (hl.below hb1).below (bl_alloc (o := .cells #[.complex .f64 (f 0) (f 1), .float .f64 (f 2)] 26) (Below.refl _ _))
  go_wp2_with fail
  go_at_call 5
  refine (disc3_w v f _ hl1).mono ?_
  rintro e w2 ⟨rfl, hb2⟩
  have s2 := hb2.size
  try simp at s2
  have d20 : w2.cell? ⟨w1.heap.size, 0, none⟩ = some (.complex .f64 (f 0) (f 1)) := bkeep2 hb2 (by simp [go_sem])
  have d21 : w2.cell? ⟨w1.heap.size, 1, none⟩ = some (.float .f64 (f 2)) := bkeep2 hb2 (by simp [go_sem])
  have l0 : w1.heap.size < w2.heap.size := cell_lt d20
  replace hl1 := (hl1.below hb2).below (bl_alloc (o := .cells #[.complex .f64 (f 3) (f 4), .float .f64 (f 5)] 26) (Below.refl _ _))
  go_wp2_with fail
  go_at_call 15
  refine (pa _).mono ?_
  rintro e w3 ⟨rfl, hb3⟩
  have s3 := hb3.size
  try simp at s3
  replace d20 := bkeep3 hb3 d20
  replace d21 := bkeep3 hb3 d21
  have d30 : w3.cell? ⟨w2.heap.size, 0, none⟩ = some (.complex .f64 (f 3) (f 4)) := bkeep2 hb3 (by simp [go_sem])
  have d31 : w3.cell? ⟨w2.heap.size, 1, none⟩ = some (.float .f64 (f 5)) := bkeep2 hb3 (by simp [go_sem])
  have l0 : w1.heap.size < w3.heap.size := cell_lt d20
  have l1 : w2.heap.size < w3.heap.size := cell_lt d30
  replace hl1 := hl1.below hb3
  go_wp2_with fail
  go_at_call 15
  refine (pb _).mono ?_
  rintro e w4 ⟨rfl, hb4⟩
  have s4 := hb4.size
  try simp at s4
  replace d20 := bkeep2 hb4 d20
  replace d21 := bkeep2 hb4 d21
  replace d30 := bkeep2 hb4 d30
  replace d31 := bkeep2 hb4 d31
  have l0 : w1.heap.size < w4.heap.size := cell_lt d20
  have l1 : w2.heap.size < w4.heap.size := cell_lt d30
  replace hl1 := hl1.below hb4
  go_wp2_with fail
  go_at_call 8
  refine (box6_w v f _ hl1).mono ?_
  rintro e w5 ⟨rfl, hb5⟩
  have s5 := hb5.size
  try simp at s5
  replace d20 := bkeep2 hb5 d20
  replace d21 := bkeep2 hb5 d21
  replace d30 := bkeep2 hb5 d30
  replace d31 := bkeep2 hb5 d31
  have l0 : w1.heap.size < w5.heap.size := cell_lt d20
  have l1 : w2.heap.size < w5.heap.size := cell_lt d30
  go_wp2_with fail
  clear hl1 hl
  go_at_call 9
  refine (ba _).mono ?_
  rintro e w6 ⟨rfl, hb6⟩
  have s6 := hb6.size
  try simp at s6
  replace d20 := bkeep3 hb6 d20
  replace d21 := bkeep3 hb6 d21
  replace d30 := bkeep3 hb6 d30
  replace d31 := bkeep3 hb6 d31
  have d60 : w6.cell? ⟨w5.heap.size, 0, none⟩ = some (.float .f64 (f 6)) := bkeep2 hb6 (by simp [go_sem])
  have d61 : w6.cell? ⟨w5.heap.size, 1, none⟩ = some (.float .f64 (f 7)) := bkeep2 hb6 (by simp [go_sem])
  have d62 : w6.cell? ⟨w5.heap.size, 2, none⟩ = some (.float .f64 (f 8)) := bkeep2 hb6 (by simp [go_sem])
  have d63 : w6.cell? ⟨w5.heap.size, 3, none⟩ = some (.float .f64 (f 9)) := bkeep2 hb6 (by simp [go_sem])
  have l0 : w1.heap.size < w6.heap.size := cell_lt d20
  have l1 : w2.heap.size < w6.heap.size := cell_lt d30
  have l2 : w5.heap.size < w6.heap.size := cell_lt d60
  go_wp2_with fail
  go_at_call 10
  refine (td _).mono ?_
  rintro e w7 ⟨rfl, hb7⟩
  have s7 := hb7.size
  try simp at s7
  replace d20 := bkeep2 hb7 d20
  replace d21 := bkeep2 hb7 d21
  replace d30 := bkeep2 hb7 d30
  replace d31 := bkeep2 hb7 d31
  replace d60 := bkeep2 hb7 d60
  replace d61 := bkeep2 hb7 d61
  replace d62 := bkeep2 hb7 d62
  replace d63 := bkeep2 hb7 d63
  have l0 : w1.heap.size < w7.heap.size := cell_lt d20
  have l1 : w2.heap.size < w7.heap.size := cell_lt d30
  have l2 : w5.heap.size < w7.heap.size := cell_lt d60
  go_wp2_with fail
  go_ret
  refine ⟨rfl, ?_⟩
  repeat (with_reducible first | exact Below.refl _ _ | assumption | refine Below.drew ?_ | refine bl_drewN ?_ _ | refine Below.setCell ?_ (by first | omega | (simp; done) | (simp; omega)) _ | refine Below.alloc ?_ (by first | omega | (simp; done) | (simp; omega)) _ | refine bl_next ?_ (by assumption) | refine bl_trans ?_ (by assumption) (by first | omega | (simp; done) | (simp; omega)))

set_option maxRecDepth 100000 in
set_option maxHeartbeats 8000000 in
theorem edges_fi_w (v : Value) (f : Nat → Nat) (bb : Bool)
    (pa : ∀ w, Calls Try.prog 15 #[.agg #[.complex .f64 (f 0) (f 1), .float .f64 (f 2)]] w fun e w' => e = .returned (.bool false) ∧ Below w.heap.size w w')
    (pb : ∀ w, Calls Try.prog 15 #[.agg #[.complex .f64 (f 3) (f 4), .float .f64 (f 5)]] w fun e w' => e = .returned (.bool bb) ∧ Below w.heap.size w w')
    (t1 t2 t3 : Nat)
    (ba : ∀ w, Calls Try.prog 9 #[.agg #[.float .f64 (f 6), .float .f64 (f 7), .float .f64 (f 8), .float .f64 (f 9)]] w fun e w' => e = .returned (.bool false) ∧ Below w.heap.size w w')
    (td : ∀ w, Calls Try.prog 10 #[.agg #[.float .f64 (f 6), .float .f64 (f 7), .float .f64 (f 8), .float .f64 (f 9)]] w fun e w' => e = .returned (.agg #[.complex .f64 t1 t2, .float .f64 t3]) ∧ Below w.heap.size w w')
    (ii : ∀ w, Calls Try.prog 21 #[.float .f64 t3, .int .i64 1] w fun e w' => e = .returned (.bool true) ∧ w' = w)
    (om : (Ieee.double.order t3 13830554455654793216 == some .eq) = false)
    (w : World) (hl : Lst w v f) :
    Calls Try.prog 4 #[v] w fun e w' => e = .returned (.bool true) ∧ Below w.heap.size w w' := by
  go_enter Try.func4, Try.ntmps4
  go_wp2_with fail
  go_at_call 5
  refine (disc0_w v f _ hl).mono ?_
  rintro e w1 ⟨rfl, hb1⟩
  have s1 := hb1.size
  try simp at s1
  have hl1 := (hl.below hb1).below (bl_alloc (o := .cells #[.complex .f64 (f 0) (f 1), .float .f64 (f 2)] 26) (Below.refl _ _))
  go_wp2_with fail
  go_at_call 5
  refine (disc3_w v f _ hl1).mono ?_
  rintro e w2 ⟨rfl, hb2⟩
  have s2 := hb2.size
  try simp at s2
  have d20 : w2.cell? ⟨w1.heap.size, 0, none⟩ = some (.complex .f64 (f 0) (f 1)) := bkeep2 hb2 (by simp [go_sem])
  have d21 : w2.cell? ⟨w1.heap.size, 1, none⟩ = some (.float .f64 (f 2)) := bkeep2 hb2 (by simp [go_sem])
  have l0 : w1.heap.size < w2.heap.size := cell_lt d20
  replace hl1 := (hl1.below hb2).below (bl_alloc (o := .cells #[.complex .f64 (f 3) (f 4), .float .f64 (f 5)] 26) (Below.refl _ _))
  go_wp2_with fail
  go_at_call 15
  refine (pa _).mono ?_
  rintro e w3 ⟨rfl, hb3⟩
  have s3 := hb3.size
  try simp at s3
  replace d20 := bkeep3 hb3 d20
  replace d21 := bkeep3 hb3 d21
  have d30 : w3.cell? ⟨w2.heap.size, 0, none⟩ = some (.complex .f64 (f 3) (f 4)) := bkeep2 hb3 (by simp [go_sem])
  have d31 : w3.cell? ⟨w2.heap.size, 1, none⟩ = some (.float .f64 (f 5)) := bkeep2 hb3 (by simp [go_sem])
  have l0 : w1.heap.size < w3.heap.size := cell_lt d20
  have l1 : w2.heap.size < w3.heap.size := cell_lt d30
  replace hl1 := hl1.below hb3
  go_wp2_with fail
  go_at_call 15
  refine (pb _).mono ?_
  rintro e w4 ⟨rfl, hb4⟩
  have s4 := hb4.size
  try simp at s4
  replace d20 := bkeep2 hb4 d20
  replace d21 := bkeep2 hb4 d21
  replace d30 := bkeep2 hb4 d30
  replace d31 := bkeep2 hb4 d31
  have l0 : w1.heap.size < w4.heap.size := cell_lt d20
  have l1 : w2.heap.size < w4.heap.size := cell_lt d30
  replace hl1 := hl1.below hb4
  go_wp2_with fail
  go_at_call 8
  refine (box6_w v f _ hl1).mono ?_
  rintro e w5 ⟨rfl, hb5⟩
  have s5 := hb5.size
  try simp at s5
  replace d20 := bkeep2 hb5 d20
  replace d21 := bkeep2 hb5 d21
  replace d30 := bkeep2 hb5 d30
  replace d31 := bkeep2 hb5 d31
  have l0 : w1.heap.size < w5.heap.size := cell_lt d20
  have l1 : w2.heap.size < w5.heap.size := cell_lt d30
  go_wp2_with fail
  clear hl1 hl
  go_at_call 9
  refine (ba _).mono ?_
  rintro e w6 ⟨rfl, hb6⟩
  have s6 := hb6.size
  try simp at s6
  replace d20 := bkeep3 hb6 d20
  replace d21 := bkeep3 hb6 d21
  replace d30 := bkeep3 hb6 d30
  replace d31 := bkeep3 hb6 d31
  have d60 : w6.cell? ⟨w5.heap.size, 0, none⟩ = some (.float .f64 (f 6)) := bkeep2 hb6 (by simp [go_sem])
  have d61 : w6.cell? ⟨w5.heap.size, 1, none⟩ = some (.float .f64 (f 7)) := bkeep2 hb6 (by simp [go_sem])
  have d62 : w6.cell? ⟨w5.heap.size, 2, none⟩ = some (.float .f64 (f 8)) := bkeep2 hb6 (by simp [go_sem])
  have d63 : w6.cell? ⟨w5.heap.size, 3, none⟩ = some (.float .f64 (f 9)) := bkeep2 hb6 (by simp [go_sem])
  have l0 : w1.heap.size < w6.heap.size := cell_lt d20
  have l1 : w2.heap.size < w6.heap.size := cell_lt d30
  have l2 : w5.heap.size < w6.heap.size := cell_lt d60
  go_wp2_with fail
  go_at_call 10
  refine (td _).mono ?_
  rintro e w7 ⟨rfl, hb7⟩
  have s7 := hb7.size
  try simp at s7
  replace d20 := bkeep2 hb7 d20
  replace d21 := bkeep2 hb7 d21
  replace d30 := bkeep2 hb7 d30
  replace d31 := bkeep2 hb7 d31
  replace d60 := bkeep2 hb7 d60
  replace d61 := bkeep2 hb7 d61
  replace d62 := bkeep2 hb7 d62
  replace d63 := bkeep2 hb7 d63
  have l0 : w1.heap.size < w7.heap.size := cell_lt d20
  have l1 : w2.heap.size < w7.heap.size := cell_lt d30
  have l2 : w5.heap.size < w7.heap.size := cell_lt d60
  go_wp2_with fail
  go_at_call 21
  refine (ii _).mono ?_
  rintro e w' ⟨rfl, rfl⟩
  go_wp2_with fail
  go_ret
  refine ⟨rfl, ?_⟩
  repeat (with_reducible first | exact Below.refl _ _ | assumption | refine Below.drew ?_ | refine bl_drewN ?_ _ | refine Below.setCell ?_ (by first | omega | (simp; done) | (simp; omega)) _ | refine Below.alloc ?_ (by first | omega | (simp; done) | (simp; omega)) _ | refine bl_next ?_ (by assumption) | refine bl_trans ?_ (by assumption) (by first | omega | (simp; done) | (simp; omega)))

set_option maxRecDepth 100000 in
set_option maxHeartbeats 8000000 in
theorem edges_fo_w (v : Value) (f : Nat → Nat) (bb : Bool)
    (pa : ∀ w, Calls Try.prog 15 #[.agg #[.complex .f64 (f 0) (f 1), .float .f64 (f 2)]] w fun e w' => e = .returned (.bool false) ∧ Below w.heap.size w w')
    (pb : ∀ w, Calls Try.prog 15 #[.agg #[.complex .f64 (f 3) (f 4), .float .f64 (f 5)]] w fun e w' => e = .returned (.bool bb) ∧ Below w.heap.size w w')
    (t1 t2 t3 : Nat)
    (ba : ∀ w, Calls Try.prog 9 #[.agg #[.float .f64 (f 6), .float .f64 (f 7), .float .f64 (f 8), .float .f64 (f 9)]] w fun e w' => e = .returned (.bool false) ∧ Below w.heap.size w w')
    (td : ∀ w, Calls Try.prog 10 #[.agg #[.float .f64 (f 6), .float .f64 (f 7), .float .f64 (f 8), .float .f64 (f 9)]] w fun e w' => e = .returned (.agg #[.complex .f64 t1 t2, .float .f64 t3]) ∧ Below w.heap.size w w')
    (ii : ∀ w, Calls Try.prog 21 #[.float .f64 t3, .int .i64 1] w fun e w' => e = .returned (.bool false) ∧ w' = w)
    (j0 : ∀ w, Calls Try.prog 22 #[.float .f64 (f 6), .float .f64 (f 8), .agg #[.complex .f64 t1 t2, .float .f64 t3]] w fun e w' => e = .returned (.bool true) ∧ Below w.heap.size w w')
    (j1 : ∀ w, Calls Try.prog 22 #[.float .f64 (f 6), .float .f64 (f 9), .agg #[.complex .f64 t1 t2, .float .f64 t3]] w fun e w' => e = .returned (.bool true) ∧ Below w.heap.size w w')
    (j2 : ∀ w, Calls Try.prog 22 #[.float .f64 (f 7), .float .f64 (f 8), .agg #[.complex .f64 t1 t2, .float .f64 t3]] w fun e w' => e = .returned (.bool true) ∧ Below w.heap.size w w')
    (j3 : ∀ w, Calls Try.prog 22 #[.float .f64 (f 7), .float .f64 (f 9), .agg #[.complex .f64 t1 t2, .float .f64 t3]] w fun e w' => e = .returned (.bool true) ∧ Below w.heap.size w w')
    (w : World) (hl : Lst w v f) :
    Calls Try.prog 4 #[v] w fun e w' => e = .returned (.bool true) ∧ Below w.heap.size w w' := by
  go_enter Try.func4, Try.ntmps4
  go_wp2_with fail
  go_at_call 5
  refine (disc0_w v f _ hl).mono ?_
  rintro e w1 ⟨rfl, hb1⟩
  have s1 := hb1.size
  try simp at s1
  have hl1 := (hl.below hb1).below (bl_alloc (o := .cells #[.complex .f64 (f 0) (f 1), .float .f64 (f 2)] 26) (Below.refl _ _))
  go_wp2_with fail
  go_at_call 5
  refine (disc3_w v f _ hl1).mono ?_
  rintro e w2 ⟨rfl, hb2⟩
  have s2 := hb2.size
  try simp at s2
  have d20 : w2.cell? ⟨w1.heap.size, 0, none⟩ = some (.complex .f64 (f 0) (f 1)) := bkeep2 hb2 (by simp [go_sem])
  have d21 : w2.cell? ⟨w1.heap.size, 1, none⟩ = some (.float .f64 (f 2)) := bkeep2 hb2 (by simp [go_sem])
  have l0 : w1.heap.size < w2.heap.size := cell_lt d20
  replace hl1 := (hl1.below hb2).below (bl_alloc (o := .cells #[.complex .f64 (f 3) (f 4), .float .f64 (f 5)] 26) (Below.refl _ _))
  go_wp2_with fail
  go_at_call 15
  refine (pa _).mono ?_
  rintro e w3 ⟨rfl, hb3⟩
  have s3 := hb3.size
  try simp at s3
  replace d20 := bkeep3 hb3 d20
  replace d21 := bkeep3 hb3 d21
  have d30 : w3.cell? ⟨w2.heap.size, 0, none⟩ = some (.complex .f64 (f 3) (f 4)) := bkeep2 hb3 (by simp [go_sem])
  have d31 : w3.cell? ⟨w2.heap.size, 1, none⟩ = some (.float .f64 (f 5)) := bkeep2 hb3 (by simp [go_sem])
  have l0 : w1.heap.size < w3.heap.size := cell_lt d20
  have l1 : w2.heap.size < w3.heap.size := cell_lt d30
  replace hl1 := hl1.below hb3
  go_wp2_with fail
  go_at_call 15
  refine (pb _).mono ?_
  rintro e w4 ⟨rfl, hb4⟩
  have s4 := hb4.size
  try simp at s4
  replace d20 := bkeep2 hb4 d20
  replace d21 := bkeep2 hb4 d21
  replace d30 := bkeep2 hb4 d30
  replace d31 := bkeep2 hb4 d31
  have l0 : w1.heap.size < w4.heap.size := cell_lt d20
  have l1 : w2.heap.size < w4.heap.size := cell_lt d30
  replace hl1 := hl1.below hb4
  go_wp2_with fail
  go_at_call 8
  refine (box6_w v f _ hl1).mono ?_
  rintro e w5 ⟨rfl, hb5⟩
  have s5 := hb5.size
  try simp at s5
  replace d20 := bkeep2 hb5 d20
  replace d21 := bkeep2 hb5 d21
  replace d30 := bkeep2 hb5 d30
  replace d31 := bkeep2 hb5 d31
  have l0 : w1.heap.size < w5.heap.size := cell_lt d20
  have l1 : w2.heap.size < w5.heap.size := cell_lt d30
  go_wp2_with fail
  clear hl1 hl
  go_at_call 9
  refine (ba _).mono ?_
  rintro e w6 ⟨rfl, hb6⟩
  have s6 := hb6.size
  try simp at s6
  replace d20 := bkeep3 hb6 d20
  replace d21 := bkeep3 hb6 d21
  replace d30 := bkeep3 hb6 d30
  replace d31 := bkeep3 hb6 d31
  have d60 : w6.cell? ⟨w5.heap.size, 0, none⟩ = some (.float .f64 (f 6)) := bkeep2 hb6 (by simp [go_sem])
  have d61 : w6.cell? ⟨w5.heap.size, 1, none⟩ = some (.float .f64 (f 7)) := bkeep2 hb6 (by simp [go_sem])
  have d62 : w6.cell? ⟨w5.heap.size, 2, none⟩ = some (.float .f64 (f 8)) := bkeep2 hb6 (by simp [go_sem])
  have d63 : w6.cell? ⟨w5.heap.size, 3, none⟩ = some (.float .f64 (f 9)) := bkeep2 hb6 (by simp [go_sem])
  have l0 : w1.heap.size < w6.heap.size := cell_lt d20
  have l1 : w2.heap.size < w6.heap.size := cell_lt d30
  have l2 : w5.heap.size < w6.heap.size := cell_lt d60
  go_wp2_with fail
  go_at_call 10
  refine (td _).mono ?_
  rintro e w7 ⟨rfl, hb7⟩
  have s7 := hb7.size
  try simp at s7
  replace d20 := bkeep2 hb7 d20
  replace d21 := bkeep2 hb7 d21
  replace d30 := bkeep2 hb7 d30
  replace d31 := bkeep2 hb7 d31
  replace d60 := bkeep2 hb7 d60
  replace d61 := bkeep2 hb7 d61
  replace d62 := bkeep2 hb7 d62
  replace d63 := bkeep2 hb7 d63
  have l0 : w1.heap.size < w7.heap.size := cell_lt d20
  have l1 : w2.heap.size < w7.heap.size := cell_lt d30
  have l2 : w5.heap.size < w7.heap.size := cell_lt d60
  go_wp2_with fail
  go_at_call 21
  refine (ii _).mono ?_
  rintro e w' ⟨rfl, rfl⟩
  go_wp2_with fail
  go_at_call 22
  refine (j0 _).mono ?_
  rintro e w8 ⟨rfl, hb8⟩
  have s8 := hb8.size
  try simp at s8
  replace d20 := bkeep3 hb8 d20
  replace d21 := bkeep3 hb8 d21
  replace d30 := bkeep3 hb8 d30
  replace d31 := bkeep3 hb8 d31
  replace d60 := bkeep3 hb8 d60
  replace d61 := bkeep3 hb8 d61
  replace d62 := bkeep3 hb8 d62
  replace d63 := bkeep3 hb8 d63
  have d80 : w8.cell? ⟨w7.heap.size, 0, none⟩ = some (.complex .f64 t1 t2) := bkeep2 hb8 (by simp [go_sem])
  have d81 : w8.cell? ⟨w7.heap.size, 1, none⟩ = some (.float .f64 t3) := bkeep2 hb8 (by simp [go_sem])
  have l0 : w1.heap.size < w8.heap.size := cell_lt d20
  have l1 : w2.heap.size < w8.heap.size := cell_lt d30
  have l2 : w5.heap.size < w8.heap.size := cell_lt d60
  have l3 : w7.heap.size < w8.heap.size := cell_lt d80
  go_wp2_with fail
  go_at_call 22
  refine (j1 _).mono ?_
  rintro e w9 ⟨rfl, hb9⟩
  have s9 := hb9.size
  try simp at s9
  replace d20 := bkeep2 hb9 d20
  replace d21 := bkeep2 hb9 d21
  replace d30 := bkeep2 hb9 d30
  replace d31 := bkeep2 hb9 d31
  replace d60 := bkeep2 hb9 d60
  replace d61 := bkeep2 hb9 d61
  replace d62 := bkeep2 hb9 d62
  replace d63 := bkeep2 hb9 d63
  replace d80 := bkeep2 hb9 d80
  replace d81 := bkeep2 hb9 d81
  have l0 : w1.heap.size < w9.heap.size := cell_lt d20
  have l1 : w2.heap.size < w9.heap.size := cell_lt d30
  have l2 : w5.heap.size < w9.heap.size := cell_lt d60
  have l3 : w7.heap.size < w9.heap.size := cell_lt d80
  go_wp2_with fail
  go_at_call 22
  refine (j2 _).mono ?_
  rintro e w10 ⟨rfl, hb10⟩
  have s10 := hb10.size
  try simp at s10
  replace d20 := bkeep2 hb10 d20
  replace d21 := bkeep2 hb10 d21
  replace d30 := bkeep2 hb10 d30
  replace d31 := bkeep2 hb10 d31
  replace d60 := bkeep2 hb10 d60
  replace d61 := bkeep2 hb10 d61
  replace d62 := bkeep2 hb10 d62
  replace d63 := bkeep2 hb10 d63
  replace d80 := bkeep2 hb10 d80
  replace d81 := bkeep2 hb10 d81
  have l0 : w1.heap.size < w10.heap.size := cell_lt d20
  have l1 : w2.heap.size < w10.heap.size := cell_lt d30
  have l2 : w5.heap.size < w10.heap.size := cell_lt d60
  have l3 : w7.heap.size < w10.heap.size := cell_lt d80
  go_wp2_with fail
  go_at_call 22
  refine (j3 _).mono ?_
  rintro e w11 ⟨rfl, hb11⟩
  have s11 := hb11.size
  try simp at s11
  replace d20 := bkeep2 hb11 d20
  replace d21 := bkeep2 hb11 d21
  replace d30 := bkeep2 hb11 d30
  replace d31 := bkeep2 hb11 d31
  replace d60 := bkeep2 hb11 d60
  replace d61 := bkeep2 hb11 d61
  replace d62 := bkeep2 hb11 d62
  replace d63 := bkeep2 hb11 d63
  replace d80 := bkeep2 hb11 d80
  replace d81 := bkeep2 hb11 d81
  have l0 : w1.heap.size < w11.heap.size := cell_lt d20
  have l1 : w2.heap.size < w11.heap.size := cell_lt d30
  have l2 : w5.heap.size < w11.heap.size := cell_lt d60
  have l3 : w7.heap.size < w11.heap.size := cell_lt d80
  go_wp2_with fail
  go_ret
  refine ⟨rfl, ?_⟩
  repeat (with_reducible first | exact Below.refl _ _ | assumption | refine Below.drew ?_ | refine bl_drewN ?_ _ | refine Below.setCell ?_ (by first | omega | (simp; done) | (simp; omega)) _ | refine Below.alloc ?_ (by first | omega | (simp; done) | (simp; omega)) _ | refine bl_next ?_ (by assumption) | refine bl_trans ?_ (by assumption) (by first | omega | (simp; done) | (simp; omega)))

set_option maxRecDepth 100000 in
set_option maxHeartbeats 8000000 in
theorem edges_tfn_w (v : Value) (f : Nat → Nat)
    (pa : ∀ w, Calls Try.prog 15 #[.agg #[.complex .f64 (f 0) (f 1), .float .f64 (f 2)]] w fun e w' => e = .returned (.bool true) ∧ Below w.heap.size w w')
    (pb : ∀ w, Calls Try.prog 15 #[.agg #[.complex .f64 (f 3) (f 4), .float .f64 (f 5)]] w fun e w' => e = .returned (.bool false) ∧ Below w.heap.size w w')
    (e1 e2 e3 e4 nr : Nat)
    (tb : ∀ w, Calls Try.prog 7 #[.agg #[.complex .f64 (f 0) (f 1), .float .f64 (f 2)]] w fun e w' => e = .returned (.agg #[.float .f64 e1, .float .f64 e2, .float .f64 e3, .float .f64 e4]) ∧ Below w.heap.size w w')
    (gr : Op.unary .neg (.float .f64 (f 2)) = pure (.float .f64 nr))
    (lw1 : ∀ w, Calls Try.prog 19 #[.float .f64 e1, .float .f64 (f 0), .float .f64 nr] w fun e w' => e = .returned (.bool true) ∧ Below w.heap.size w w')
    (lw2 : ∀ w, Calls Try.prog 19 #[.float .f64 e3, .float .f64 (f 1), .float .f64 nr] w fun e w' => e = .returned (.bool true) ∧ Below w.heap.size w w')
    (hg1 : ∀ w, Calls Try.prog 20 #[.float .f64 e2, .float .f64 (f 0), .float .f64 (f 2)] w fun e w' => e = .returned (.bool true) ∧ Below w.heap.size w w')
    (hg2 : ∀ w, Calls Try.prog 20 #[.float .f64 e4, .float .f64 (f 1), .float .f64 (f 2)] w fun e w' => e = .returned (.bool true) ∧ Below w.heap.size w w')
    (t1 t2 t3 : Nat)
    (ba : ∀ w, Calls Try.prog 9 #[.agg #[.float .f64 (f 6), .float .f64 (f 7), .float .f64 (f 8), .float .f64 (f 9)]] w fun e w' => e = .returned (.bool true) ∧ Below w.heap.size w w')
    (td : ∀ w, Calls Try.prog 10 #[.agg #[.float .f64 (f 6), .float .f64 (f 7), .float .f64 (f 8), .float .f64 (f 9)]] w fun e w' => e = .returned (.agg #[.complex .f64 t1 t2, .float .f64 t3]) ∧ Below w.heap.size w w')
    (om : (Ieee.double.order t3 13830554455654793216 == some .eq) = true)
    (w : World) (hl : Lst w v f) :
    Calls Try.prog 4 #[v] w fun e w' => e = .returned (.bool true) ∧ Below w.heap.size w w' := by
  go_enter Try.func4, Try.ntmps4
  go_wp2_with fail
  go_at_call 5
  refine (disc0_w v f _ hl).mono ?_
  rintro e w1 ⟨rfl, hb1⟩
  have s1 := hb1.size
  try simp at s1
  have hl1 := (hl.below hb1).below (bl_alloc (o := .cells #[.complex .f64 (f 0) (f 1), .float .f64 (f 2)] 26) (Below.refl _ _))
  go_wp2_with fail
  go_at_call 5
  refine (disc3_w v f _ hl1).mono ?_
  rintro e w2 ⟨rfl, hb2⟩
  have s2 := hb2.size
  try simp at s2
  have d20 : w2.cell? ⟨w1.heap.size, 0, none⟩ = some (.complex .f64 (f 0) (f 1)) := bkeep2 hb2 (by simp [go_sem])
  have d21 : w2.cell? ⟨w1.heap.size, 1, none⟩ = some (.float .f64 (f 2)) := bkeep2 hb2 (by simp [go_sem])
  have l0 : w1.heap.size < w2.heap.size := cell_lt d20
  replace hl1 := (hl1.below hb2).below (bl_alloc (o := .cells #[.complex .f64 (f 3) (f 4), .float .f64 (f 5)] 26) (Below.refl _ _))
  go_wp2_with fail
  go_at_call 15
  refine (pa _).mono ?_
  rintro e w3 ⟨rfl, hb3⟩
  have s3 := hb3.size
  try simp at s3
  replace d20 := bkeep3 hb3 d20
  replace d21 := bkeep3 hb3 d21
  have d30 : w3.cell? ⟨w2.heap.size, 0, none⟩ = some (.complex .f64 (f 3) (f 4)) := bkeep2 hb3 (by simp [go_sem])
  have d31 : w3.cell? ⟨w2.heap.size, 1, none⟩ = some (.float .f64 (f 5)) := bkeep2 hb3 (by simp [go_sem])
  have l0 : w1.heap.size < w3.heap.size := cell_lt d20
  have l1 : w2.heap.size < w3.heap.size := cell_lt d30
  replace hl1 := hl1.below hb3
  go_wp2_with fail
  go_at_call 15
  refine (pb _).mono ?_
  rintro e w4 ⟨rfl, hb4⟩
  have s4 := hb4.size
  try simp at s4
  replace d20 := bkeep2 hb4 d20
  replace d21 := bkeep2 hb4 d21
  replace d30 := bkeep2 hb4 d30
  replace d31 := bkeep2 hb4 d31
  have l0 : w1.heap.size < w4.heap.size := cell_lt d20
  have l1 : w2.heap.size < w4.heap.size := cell_lt d30
  replace hl1 := hl1.below hb4
  go_wp2_with fail
  go_at_call 7
  refine (tb _).mono ?_
  rintro e w5 ⟨rfl, hb5⟩
  have s5 := hb5.size
  try simp at s5
  replace d20 := bkeep2 hb5 d20
  replace d21 := bkeep2 hb5 d21
  replace d30 := bkeep2 hb5 d30
  replace d31 := bkeep2 hb5 d31
  have l0 : w1.heap.size < w5.heap.size := cell_lt d20
  have l1 : w2.heap.size < w5.heap.size := cell_lt d30
  replace hl1 := (hl1.below hb5).below (bl_alloc (o := .cells #[.float .f64 e1, .float .f64 e2, .float .f64 e3, .float .f64 e4] 32) (Below.refl _ _))
  go_wp2_with fail
  go_at_call 19
  refine (lw1 _).mono ?_
  rintro e w6 ⟨rfl, hb6⟩
  have s6 := hb6.size
  try simp at s6
  replace d20 := bkeep3 hb6 d20
  replace d21 := bkeep3 hb6 d21
  replace d30 := bkeep3 hb6 d30
  replace d31 := bkeep3 hb6 d31
  have d60 : w6.cell? ⟨w5.heap.size, 0, none⟩ = some (.float .f64 e1) := bkeep2 hb6 (by simp [go_sem])
  have d61 : w6.cell? ⟨w5.heap.size, 1, none⟩ = some (.float .f64 e2) := bkeep2 hb6 (by simp [go_sem])
  have d62 : w6.cell? ⟨w5.heap.size, 2, none⟩ = some (.float .f64 e3) := bkeep2 hb6 (by simp [go_sem])
  have d63 : w6.cell? ⟨w5.heap.size, 3, none⟩ = some (.float .f64 e4) := bkeep2 hb6 (by simp [go_sem])
  have l0 : w1.heap.size < w6.heap.size := cell_lt d20
  have l1 : w2.heap.size < w6.heap.size := cell_lt d30
  have l2 : w5.heap.size < w6.heap.size := cell_lt d60
  replace hl1 := hl1.below hb6
  go_wp2_with fail
  go_at_call 19
  refine (lw2 _).mono ?_
  rintro e w7 ⟨rfl, hb7⟩
  have s7 := hb7.size
  try simp at s7
  replace d20 := bkeep2 hb7 d20
  replace d21 := bkeep2 hb7 d21
  replace d30 := bkeep2 hb7 d30
  replace d31 := bkeep2 hb7 d31
  replace d60 := bkeep2 hb7 d60
  replace d61 := bkeep2 hb7 d61
  replace d62 := bkeep2 hb7 d62
  replace d63 := bkeep2 hb7 d63
  have l0 : w1.heap.size < w7.heap.size := cell_lt d20
  have l1 : w2.heap.size < w7.heap.size := cell_lt d30
  have l2 : w5.heap.size < w7.heap.size := cell_lt d60
  replace hl1 := hl1.below hb7
  go_wp2_with fail
  go_at_call 20
  refine (hg1 _).mono ?_
  rintro e w8 ⟨rfl, hb8⟩
  have s8 := hb8.size
  try simp at s8
  replace d20 := bkeep2 hb8 d20
  replace d21 := bkeep2 hb8 d21
  replace d30 := bkeep2 hb8 d30
  replace d31 := bkeep2 hb8 d31
  replace d60 := bkeep2 hb8 d60
  replace d61 := bkeep2 hb8 d61
  replace d62 := bkeep2 hb8 d62
  replace d63 := bkeep2 hb8 d63
  have l0 : w1.heap.size < w8.heap.size := cell_lt d20
  have l1 : w2.heap.size < w8.heap.size := cell_lt d30
  have l2 : w5.heap.size < w8.heap.size := cell_lt d60
  replace hl1 := hl1.below hb8
  go_wp2_with fail
  go_at_call 20
  refine (hg2 _).mono ?_
  rintro e w9 ⟨rfl, hb9⟩
  have s9 := hb9.size
  try simp at s9
  replace d20 := bkeep2 hb9 d20
  replace d21 := bkeep2 hb9 d21
  replace d30 := bkeep2 hb9 d30
  replace d31 := bkeep2 hb9 d31
  replace d60 := bkeep2 hb9 d60
  replace d61 := bkeep2 hb9 d61
  replace d62 := bkeep2 hb9 d62
  replace d63 := bkeep2 hb9 d63
  have l0 : w1.heap.size < w9.heap.size := cell_lt d20
  have l1 : w2.heap.size < w9.heap.size := cell_lt d30
  have l2 : w5.heap.size < w9.heap.size := cell_lt d60
  replace hl1 := hl1.below hb9
  go_wp2_with fail
  go_at_call 8
  refine (box6_w v f _ hl1).mono ?_
  rintro e w10 ⟨rfl, hb10⟩
  have s10 := hb10.size
  try simp at s10
  replace d20 := bkeep2 hb10 d20
  replace d21 := bkeep2 hb10 d21
  replace d30 := bkeep2 hb10 d30
  replace d31 := bkeep2 hb10 d31
  replace d60 := bkeep2 hb10 d60
  replace d61 := bkeep2 hb10 d61
  replace d62 := bkeep2 hb10 d62
  replace d63 := bkeep2 hb10 d63
  have l0 : w1.heap.size < w10.heap.size := cell_lt d20
  have l1 : w2.heap.size < w10.heap.size := cell_lt d30
  have l2 : w5.heap.size < w10.heap.size := cell_lt d60
  go_wp2_with fail
  clear hl1 hl
  go_at_call 9
  refine (ba _).mono ?_
  rintro e w11 ⟨rfl, hb11⟩
  have s11 := hb11.size
  try simp at s11
  replace d20 := bkeep3 hb11 d20
  replace d21 := bkeep3 hb11 d21
  replace d30 := bkeep3 hb11 d30
  replace d31 := bkeep3 hb11 d31
  replace d60 := bkeep3 hb11 d60
  replace d61 := bkeep3 hb11 d61
  replace d62 := bkeep3 hb11 d62
  replace d63 := bkeep3 hb11 d63
  have d110 : w11.cell? ⟨w10.heap.size, 0, none⟩ = some (.float .f64 (f 6)) := bkeep2 hb11 (by simp [go_sem])
  have d111 : w11.cell? ⟨w10.heap.size, 1, none⟩ = some (.float .f64 (f 7)) := bkeep2 hb11 (by simp [go_sem])
  have d112 : w11.cell? ⟨w10.heap.size, 2, none⟩ = some (.float .f64 (f 8)) := bkeep2 hb11 (by simp [go_sem])
  have d113 : w11.cell? ⟨w10.heap.size, 3, none⟩ = some (.float .f64 (f 9)) := bkeep2 hb11 (by simp [go_sem])
  have l0 : w1.heap.size < w11.heap.size := cell_lt d20
  have l1 : w2.heap.size < w11.heap.size := cell_lt d30
  have l2 : w5.heap.size < w11.heap.size := cell_lt d60
  have l3 : w10.heap.size < w11.heap.size := cell_lt d110
  go_wp2_with fail
  go_at_call 10
  refine (td _).mono ?_
  rintro e w12 ⟨rfl, hb12⟩
  have s12 := hb12.size
  try simp at s12
  replace d20 := bkeep2 hb12 d20
  replace d21 := bkeep2 hb12 d21
  replace d30 := bkeep2 hb12 d30
  replace d31 := bkeep2 hb12 d31
  replace d60 := bkeep2 hb12 d60
  replace d61 := bkeep2 hb12 d61
  replace d62 := bkeep2 hb12 d62
  replace d63 := bkeep2 hb12 d63
  replace d110 := bkeep2 hb12 d110
  replace d111 := bkeep2 hb12 d111
  replace d112 := bkeep2 hb12 d112
  replace d113 := bkeep2 hb12 d113
  have l0 : w1.heap.size < w12.heap.size := cell_lt d20
  have l1 : w2.heap.size < w12.heap.size := cell_lt d30
  have l2 : w5.heap.size < w12.heap.size := cell_lt d60
  have l3 : w10.heap.size < w12.heap.size := cell_lt d110
  go_wp2_with fail
  go_ret
  refine ⟨rfl, ?_⟩
  repeat (with_reducible first | exact Below.refl _ _ | assumption | refine Below.drew ?_ | refine bl_drewN ?_ _ | refine Below.setCell ?_ (by first | omega | (simp; done) | (simp; omega)) _ | refine Below.alloc ?_ (by first | omega | (simp; done) | (simp; omega)) _ | refine bl_next ?_ (by assumption) | refine bl_trans ?_ (by assumption) (by first | omega | (simp; done) | (simp; omega)))

set_option maxRecDepth 100000 in
set_option maxHeartbeats 8000000 in
theorem edges_tfi_w (v : Value) (f : Nat → Nat)
    (pa : ∀ w, Calls Try.prog 15 #[.agg #[.complex .f64 (f 0) (f 1), .float .f64 (f 2)]] w fun e w' => e = .returned (.bool true) ∧ Below w.heap.size w w')
    (pb : ∀ w, Calls Try.prog 15 #[.agg #[.complex .f64 (f 3) (f 4), .float .f64 (f 5)]] w fun e w' => e = .returned (.bool false) ∧ Below w.heap.size w w')
    (e1 e2 e3 e4 nr : Nat)
    (tb : ∀ w, Calls Try.prog 7 #[.agg #[.complex .f64 (f 0) (f 1), .float .f64 (f 2)]] w fun e w' => e = .returned (.agg #[.float .f64 e1, .float .f64 e2, .float .f64 e3, .float .f64 e4]) ∧ Below w.heap.size w w')
    (gr : Op.unary .neg (.float .f64 (f 2)) = pure (.float .f64 nr))
    (lw1 : ∀ w, Calls Try.prog 19 #[.float .f64 e1, .float .f64 (f 0), .float .f64 nr] w fun e w' => e = .returned (.bool true) ∧ Below w.heap.size w w')
    (lw2 : ∀ w, Calls Try.prog 19 #[.float .f64 e3, .float .f64 (f 1), .float .f64 nr] w fun e w' => e = .returned (.bool true) ∧ Below w.heap.size w w')
    (hg1 : ∀ w, Calls Try.prog 20 #[.float .f64 e2, .float .f64 (f 0), .float .f64 (f 2)] w fun e w' => e = .returned (.bool true) ∧ Below w.heap.size w w')
    (hg2 : ∀ w, Calls Try.prog 20 #[.float .f64 e4, .float .f64 (f 1), .float .f64 (f 2)] w fun e w' => e = .returned (.bool true) ∧ Below w.heap.size w w')
    (t1 t2 t3 : Nat)
    (ba : ∀ w, Calls Try.prog 9 #[.agg #[.float .f64 (f 6), .float .f64 (f 7), .float .f64 (f 8), .float .f64 (f 9)]] w fun e w' => e = .returned (.bool false) ∧ Below w.heap.size w w')
    (td : ∀ w, Calls Try.prog 10 #[.agg #[.float .f64 (f 6), .float .f64 (f 7), .float .f64 (f 8), .float .f64 (f 9)]] w fun e w' => e = .returned (.agg #[.complex .f64 t1 t2, .float .f64 t3]) ∧ Below w.heap.size w w')
    (ii : ∀ w, Calls Try.prog 21 #[.float .f64 t3, .int .i64 1] w fun e w' => e = .returned (.bool true) ∧ w' = w)
    (om : (Ieee.double.order t3 13830554455654793216 == some .eq) = false)
    (w : World) (hl : Lst w v f) :
    Calls Try.prog 4 #[v] w fun e w' => e = .returned (.bool true) ∧ Below w.heap.size w w' := by
  go_enter Try.func4, Try.ntmps4
  go_wp2_with fail
  go_at_call 5
  refine (disc0_w v f _ hl).mono ?_
  rintro e w1 ⟨rfl, hb1⟩
  have s1 := hb1.size
  try simp at s1
  have hl1 := (hl.below hb1).below (bl_alloc (o := .cells #[.complex .f64 (f 0) (f 1), .float .f64 (f 2)] 26) (Below.refl _ _))
  go_wp2_with fail
  go_at_call 5
  refine (disc3_w v f _ hl1).mono ?_
  rintro e w2 ⟨rfl, hb2⟩
  have s2 := hb2.size
  try simp at s2
  have d20 : w2.cell? ⟨w1.heap.size, 0, none⟩ = some (.complex .f64 (f 0) (f 1)) := bkeep2 hb2 (by simp [go_sem])
  have d21 : w2.cell? ⟨w1.heap.size, 1, none⟩ = some (.float .f64 (f 2)) := bkeep2 hb2 (by simp [go_sem])
  have l0 : w1.heap.size < w2.heap.size := cell_lt d20
  replace hl1 := (hl1.below hb2).below (bl_alloc (o := .cells #[.complex .f64 (f 3) (f 4), .float .f64 (f 5)] 26) (Below.refl _ _))
  go_wp2_with fail
  go_at_call 15
  refine (pa _).mono ?_
  rintro e w3 ⟨rfl, hb3⟩
  have s3 := hb3.size
  try simp at s3
  replace d20 := bkeep3 hb3 d20
  replace d21 := bkeep3 hb3 d21
  have d30 : w3.cell? ⟨w2.heap.size, 0, none⟩ = some (.complex .f64 (f 3) (f 4)) := bkeep2 hb3 (by simp [go_sem])
  have d31 : w3.cell? ⟨w2.heap.size, 1, none⟩ = some (.float .f64 (f 5)) := bkeep2 hb3 (by simp [go_sem])
  have l0 : w1.heap.size < w3.heap.size := cell_lt d20
  have l1 : w2.heap.size < w3.heap.size := cell_lt d30
  replace hl1 := hl1.below hb3
  go_wp2_with fail
  go_at_call 15
  refine (pb _).mono ?_
  rintro e w4 ⟨rfl, hb4⟩
  have s4 := hb4.size
  try simp at s4
  replace d20 := bkeep2 hb4 d20
  replace d21 := bkeep2 hb4 d21
  replace d30 := bkeep2 hb4 d30
  replace d31 := bkeep2 hb4 d31
  have l0 : w1.heap.size < w4.heap.size := cell_lt d20
  have l1 : w2.heap.size < w4.heap.size := cell_lt d30
  replace hl1 := hl1.below hb4
  go_wp2_with fail
  go_at_call 7
  refine (tb _).mono ?_
  rintro e w5 ⟨rfl, hb5⟩
  have s5 := hb5.size
  try simp at s5
  replace d20 := bkeep2 hb5 d20
  replace d21 := bkeep2 hb5 d21
  replace d30 := bkeep2 hb5 d30
  replace d31 := bkeep2 hb5 d31
  have l0 : w1.heap.size < w5.heap.size := cell_lt d20
  have l1 : w2.heap.size < w5.heap.size := cell_lt d30
  replace hl1 := (hl1.below hb5).below (bl_alloc (o := .cells #[.float .f64 e1, .float .f64 e2, .float .f64 e3, .float .f64 e4] 32) (Below.refl _ _))
  go_wp2_with fail
  go_at_call 19
  refine (lw1 _).mono ?_
  rintro e w6 ⟨rfl, hb6⟩
  have s6 := hb6.size
  try simp at s6
  replace d20 := bkeep3 hb6 d20
  replace d21 := bkeep3 hb6 d21
  replace d30 := bkeep3 hb6 d30
  replace d31 := bkeep3 hb6 d31
  have d60 : w6.cell? ⟨w5.heap.size, 0, none⟩ = some (.float .f64 e1) := bkeep2 hb6 (by simp [go_sem])
  have d61 : w6.cell? ⟨w5.heap.size, 1, none⟩ = some (.float .f64 e2) := bkeep2 hb6 (by simp [go_sem])
  have d62 : w6.cell? ⟨w5.heap.size, 2, none⟩ = some (.float .f64 e3) := bkeep2 hb6 (by simp [go_sem])
  have d63 : w6.cell? ⟨w5.heap.size, 3, none⟩ = some (.float .f64 e4) := bkeep2 hb6 (by simp [go_sem])
  have l0 : w1.heap.size < w6.heap.size := cell_lt d20
  have l1 : w2.heap.size < w6.heap.size := cell_lt d30
  have l2 : w5.heap.size < w6.heap.size := cell_lt d60
  replace hl1 := hl1.below hb6
  go_wp2_with fail
  go_at_call 19
  refine (lw2 _).mono ?_
  rintro e w7 ⟨rfl, hb7⟩
  have s7 := hb7.size
  try simp at s7
  replace d20 := bkeep2 hb7 d20
  replace d21 := bkeep2 hb7 d21
  replace d30 := bkeep2 hb7 d30
  replace d31 := bkeep2 hb7 d31
  replace d60 := bkeep2 hb7 d60
  replace d61 := bkeep2 hb7 d61
  replace d62 := bkeep2 hb7 d62
  replace d63 := bkeep2 hb7 d63
  have l0 : w1.heap.size < w7.heap.size := cell_lt d20
  have l1 : w2.heap.size < w7.heap.size := cell_lt d30
  have l2 : w5.heap.size < w7.heap.size := cell_lt d60
  replace hl1 := hl1.below hb7
  go_wp2_with fail
  go_at_call 20
  refine (hg1 _).mono ?_
  rintro e w8 ⟨rfl, hb8⟩
  have s8 := hb8.size
  try simp at s8
  replace d20 := bkeep2 hb8 d20
  replace d21 := bkeep2 hb8 d21
  replace d30 := bkeep2 hb8 d30
  replace d31 := bkeep2 hb8 d31
  replace d60 := bkeep2 hb8 d60
  replace d61 := bkeep2 hb8 d61
  replace d62 := bkeep2 hb8 d62
  replace d63 := bkeep2 hb8 d63
  have l0 : w1.heap.size < w8.heap.size := cell_lt d20
  have l1 : w2.heap.size < w8.heap.size := cell_lt d30
  have l2 : w5.heap.size < w8.heap.size := cell_lt d60
  replace hl1 := hl1.below hb8
  go_wp2_with fail
  go_at_call 20
  refine (hg2 _).mono ?_
  rintro e w9 ⟨rfl, hb9⟩
  have s9 := hb9.size
  try simp at s9
  replace d20 := bkeep2 hb9 d20
  replace d21 := bkeep2 hb9 d21
  replace d30 := bkeep2 hb9 d30
  replace d31 := bkeep2 hb9 d31
  replace d60 := bkeep2 hb9 d60
  replace d61 := bkeep2 hb9 d61
  replace d62 := bkeep2 hb9 d62
  replace d63 := bkeep2 hb9 d63
  have l0 : w1.heap.size < w9.heap.size := cell_lt d20
  have l1 : w2.heap.size < w9.heap.size := cell_lt d30
  have l2 : w5.heap.size < w9.heap.size := cell_lt d60
  replace hl1 := hl1.below hb9
  go_wp2_with fail
  go_at_call 8
  refine (box6_w v f _ hl1).mono ?_
  rintro e w10 ⟨rfl, hb10⟩
  have s10 := hb10.size
  try simp at s10
  replace d20 := bkeep2 hb10 d20
  replace d21 := bkeep2 hb10 d21
  replace d30 := bkeep2 hb10 d30
  replace d31 := bkeep2 hb10 d31
  replace d60 := bkeep2 hb10 d60
  replace d61 := bkeep2 hb10 d61
  replace d62 := bkeep2 hb10 d62
  replace d63 := bkeep2 hb10 d63
  have l0 : w1.heap.size < w10.heap.size := cell_lt d20
  have l1 : w2.heap.size < w10.heap.size := cell_lt d30
  have l2 : w5.heap.size < w10.heap.size := cell_lt d60
  go_wp2_with fail
  clear hl1 hl
  go_at_call 9
  refine (ba _).mono ?_
  rintro e w11 ⟨rfl, hb11⟩
  have s11 := hb11.size
  try simp at s11
  replace d20 := bkeep3 hb11 d20
  replace d21 := bkeep3 hb11 d21
  replace d30 := bkeep3 hb11 d30
  replace d31 := bkeep3 hb11 d31
  replace d60 := bkeep3 hb11 d60
  replace d61 := bkeep3 hb11 d61
  replace d62 := bkeep3 hb11 d62
  replace d63 := bkeep3 hb11 d63
  have d110 : w11.cell? ⟨w10.heap.size, 0, none⟩ = some (.float .f64 (f 6)) := bkeep2 hb11 (by simp [go_sem])
  have d111 : w11.cell? ⟨w10.heap.size, 1, none⟩ = some (.float .f64 (f 7)) := bkeep2 hb11 (by simp [go_sem])
  have d112 : w11.cell? ⟨w10.heap.size, 2, none⟩ = some (.float .f64 (f 8)) := bkeep2 hb11 (by simp [go_sem])
  have d113 : w11.cell? ⟨w10.heap.size, 3, none⟩ = some (.float .f64 (f 9)) := bkeep2 hb11 (by simp [go_sem])
  have l0 : w1.heap.size < w11.heap.size := cell_lt d20
  have l1 : w2.heap.size < w11.heap.size := cell_lt d30
  have l2 : w5.heap.size < w11.heap.size := cell_lt d60
  have l3 : w10.heap.size < w11.heap.size := cell_lt d110
  go_wp2_with fail
  go_at_call 10
  refine (td _).mono ?_
  rintro e w12 ⟨rfl, hb12⟩
  have s12 := hb12.size
  try simp at s12
  replace d20 := bkeep2 hb12 d20
  replace d21 := bkeep2 hb12 d21
  replace d30 := bkeep2 hb12 d30
  replace d31 := bkeep2 hb12 d31
  replace d60 := bkeep2 hb12 d60
  replace d61 := bkeep2 hb12 d61
  replace d62 := bkeep2 hb12 d62
  replace d63 := bkeep2 hb12 d63
  replace d110 := bkeep2 hb12 d110
  replace d111 := bkeep2 hb12 d111
  replace d112 := bkeep2 hb12 d112
  replace d113 := bkeep2 hb12 d113
  have l0 : w1.heap.size < w12.heap.size := cell_lt d20
  have l1 : w2.heap.size < w12.heap.size := cell_lt d30
  have l2 : w5.heap.size < w12.heap.size := cell_lt d60
  have l3 : w10.heap.size < w12.heap.size := cell_lt d110
  go_wp2_with fail
  go_at_call 21
  refine (ii _).mono ?_
  rintro e w' ⟨rfl, rfl⟩
  go_wp2_with fail
  go_ret
  refine ⟨rfl, ?_⟩
  repeat (with_reducible first | exact Below.refl _ _ | assumption | refine Below.drew ?_ | refine bl_drewN ?_ _ | refine Below.setCell ?_ (by first | omega | (simp; done) | (simp; omega)) _ | refine Below.alloc ?_ (by first | omega | (simp; done) | (simp; omega)) _ | refine bl_next ?_ (by assumption) | refine bl_trans ?_ (by assumption) (by first | omega | (simp; done) | (simp; omega)))

set_option maxRecDepth 100000 in
set_option maxHeartbeats 8000000 in
theorem edges_tfo_w (v : Value) (f : Nat → Nat)
    (pa : ∀ w, Calls Try.prog 15 #[.agg #[.complex .f64 (f 0) (f 1), .float .f64 (f 2)]] w fun e w' => e = .returned (.bool true) ∧ Below w.heap.size w w')
    (pb : ∀ w, Calls Try.prog 15 #[.agg #[.complex .f64 (f 3) (f 4), .float .f64 (f 5)]] w fun e w' => e = .returned (.bool false) ∧ Below w.heap.size w w')
    (e1 e2 e3 e4 nr : Nat)
    (tb : ∀ w, Calls Try.prog 7 #[.agg #[.complex .f64 (f 0) (f 1), .float .f64 (f 2)]] w fun e w' => e = .returned (.agg #[.float .f64 e1, .float .f64 e2, .float .f64 e3, .float .f64 e4]) ∧ Below w.heap.size w w')
    (gr : Op.unary .neg (.float .f64 (f 2)) = pure (.float .f64 nr))
    (lw1 : ∀ w, Calls Try.prog 19 #[.float .f64 e1, .float .f64 (f 0), .float .f64 nr] w fun e w' => e = .returned (.bool true) ∧ Below w.heap.size w w')
    (lw2 : ∀ w, Calls Try.prog 19 #[.float .f64 e3, .float .f64 (f 1), .float .f64 nr] w fun e w' => e = .returned (.bool true) ∧ Below w.heap.size w w')
    (hg1 : ∀ w, Calls Try.prog 20 #[.float .f64 e2, .float .f64 (f 0), .float .f64 (f 2)] w fun e w' => e = .returned (.bool true) ∧ Below w.heap.size w w')
    (hg2 : ∀ w, Calls Try.prog 20 #[.float .f64 e4, .float .f64 (f 1), .float .f64 (f 2)] w fun e w' => e = .returned (.bool true) ∧ Below w.heap.size w w')
    (t1 t2 t3 : Nat)
    (ba : ∀ w, Calls Try.prog 9 #[.agg #[.float .f64 (f 6), .float .f64 (f 7), .float .f64 (f 8), .float .f64 (f 9)]] w fun e w' => e = .returned (.bool false) ∧ Below w.heap.size w w')
    (td : ∀ w, Calls Try.prog 10 #[.agg #[.float .f64 (f 6), .float .f64 (f 7), .float .f64 (f 8), .float .f64 (f 9)]] w fun e w' => e = .returned (.agg #[.complex .f64 t1 t2, .float .f64 t3]) ∧ Below w.heap.size w w')
    (ii : ∀ w, Calls Try.prog 21 #[.float .f64 t3, .int .i64 1] w fun e w' => e = .returned (.bool false) ∧ w' = w)
    (j0 : ∀ w, Calls Try.prog 22 #[.float .f64 (f 6), .float .f64 (f 8), .agg #[.complex .f64 t1 t2, .float .f64 t3]] w fun e w' => e = .returned (.bool true) ∧ Below w.heap.size w w')
    (j1 : ∀ w, Calls Try.prog 22 #[.float .f64 (f 6), .float .f64 (f 9), .agg #[.complex .f64 t1 t2, .float .f64 t3]] w fun e w' => e = .returned (.bool true) ∧ Below w.heap.size w w')
    (j2 : ∀ w, Calls Try.prog 22 #[.float .f64 (f 7), .float .f64 (f 8), .agg #[.complex .f64 t1 t2, .float .f64 t3]] w fun e w' => e = .returned (.bool true) ∧ Below w.heap.size w w')
    (j3 : ∀ w, Calls Try.prog 22 #[.float .f64 (f 7), .float .f64 (f 9), .agg #[.complex .f64 t1 t2, .float .f64 t3]] w fun e w' => e = .returned (.bool true) ∧ Below w.heap.size w w')
    (w : World) (hl : Lst w v f) :
    Calls Try.prog 4 #[v] w fun e w' => e = .returned (.bool true) ∧ Below w.heap.size w w' := by
  go_enter Try.func4, Try.ntmps4
  go_wp2_with fail
  go_at_call 5
  refine (disc0_w v f _ hl).mono ?_
  rintro e w1 ⟨rfl, hb1⟩
  have s1 := hb1.size
  try simp at s1
  have hl1 := (hl.below hb1).below (bl_alloc (o := .cells #[.complex .f64 (f 0) (f 1), .float .f64 (f 2)] 26) (Below.refl _ _))
  go_wp2_with fail
  go_at_call 5
  refine (disc3_w v f _ hl1).mono ?_
  rintro e w2 ⟨rfl, hb2⟩
  have s2 := hb2.size
  try simp at s2
  have d20 : w2.cell? ⟨w1.heap.size, 0, none⟩ = some (.complex .f64 (f 0) (f 1)) := bkeep2 hb2 (by simp [go_sem])
  have d21 : w2.cell? ⟨w1.heap.size, 1, none⟩ = some (.float .f64 (f 2)) := bkeep2 hb2 (by simp [go_sem])
  have l0 : w1.heap.size < w2.heap.size := cell_lt d20
  replace hl1 := (hl1.below hb2).below (bl_alloc (o := .cells #[.complex .f64 (f 3) (f 4), .float .f64 (f 5)] 26) (Below.refl _ _))
  go_wp2_with fail
  go_at_call 15
  refine (pa _).mono ?_
  rintro e w3 ⟨rfl, hb3⟩
  have s3 := hb3.size
  try simp at s3
  replace d20 := bkeep3 hb3 d20
  replace d21 := bkeep3 hb3 d21
  have d30 : w3.cell? ⟨w2.heap.size, 0, none⟩ = some (.complex .f64 (f 3) (f 4)) := bkeep2 hb3 (by simp [go_sem])
  have d31 : w3.cell? ⟨w2.heap.size, 1, none⟩ = some (.float .f64 (f 5)) := bkeep2 hb3 (by simp [go_sem])
  have l0 : w1.heap.size < w3.heap.size := cell_lt d20
  have l1 : w2.heap.size < w3.heap.size := cell_lt d30
  replace hl1 := hl1.below hb3
  go_wp2_with fail
  go_at_call 15
  refine (pb _).mono ?_
  rintro e w4 ⟨rfl, hb4⟩
  have s4 := hb4.size
  try simp at s4
  replace d20 := bkeep2 hb4 d20
  replace d21 := bkeep2 hb4 d21
  replace d30 := bkeep2 hb4 d30
  replace d31 := bkeep2 hb4 d31
  have l0 : w1.heap.size < w4.heap.size := cell_lt d20
  have l1 : w2.heap.size < w4.heap.size := cell_lt d30
  replace hl1 := hl1.below hb4
  go_wp2_with fail
  go_at_call 7
  refine (tb _).mono ?_
  rintro e w5 ⟨rfl, hb5⟩
  have s5 := hb5.size
  try simp at s5
  replace d20 := bkeep2 hb5 d20
  replace d21 := bkeep2 hb5 d21
  replace d30 := bkeep2 hb5 d30
  replace d31 := bkeep2 hb5 d31
  have l0 : w1.heap.size < w5.heap.size := cell_lt d20
  have l1 : w2.heap.size < w5.heap.size := cell_lt d30
  replace hl1 := (hl1.below hb5).below (bl_alloc (o := .cells #[.float .f64 e1, .float .f64 e2, .float .f64 e3, .float .f64 e4] 32) (Below.refl _ _))
  go_wp2_with fail
  go_at_call 19
  refine (lw1 _).mono ?_
  rintro e w6 ⟨rfl, hb6⟩
  have s6 := hb6.size
  try simp at s6
  replace d20 := bkeep3 hb6 d20
  replace d21 := bkeep3 hb6 d21
  replace d30 := bkeep3 hb6 d30
  replace d31 := bkeep3 hb6 d31
  have d60 : w6.cell? ⟨w5.heap.size, 0, none⟩ = some (.float .f64 e1) := bkeep2 hb6 (by simp [go_sem])
  have d61 : w6.cell? ⟨w5.heap.size, 1, none⟩ = some (.float .f64 e2) := bkeep2 hb6 (by simp [go_sem])
  have d62 : w6.cell? ⟨w5.heap.size, 2, none⟩ = some (.float .f64 e3) := bkeep2 hb6 (by simp [go_sem])
  have d63 : w6.cell? ⟨w5.heap.size, 3, none⟩ = some (.float .f64 e4) := bkeep2 hb6 (by simp [go_sem])
  have l0 : w1.heap.size < w6.heap.size := cell_lt d20
  have l1 : w2.heap.size < w6.heap.size := cell_lt d30
  have l2 : w5.heap.size < w6.heap.size := cell_lt d60
  replace hl1 := hl1.below hb6
  go_wp2_with fail
  go_at_call 19
  refine (lw2 _).mono ?_
  rintro e w7 ⟨rfl, hb7⟩
  have s7 := hb7.size
  try simp at s7
  replace d20 := bkeep2 hb7 d20
  replace d21 := bkeep2 hb7 d21
  replace d30 := bkeep2 hb7 d30
  replace d31 := bkeep2 hb7 d31
  replace d60 := bkeep2 hb7 d60
  replace d61 := bkeep2 hb7 d61
  replace d62 := bkeep2 hb7 d62
  replace d63 := bkeep2 hb7 d63
  have l0 : w1.heap.size < w7.heap.size := cell_lt d20
  have l1 : w2.heap.size < w7.heap.size := cell_lt d30
  have l2 : w5.heap.size < w7.heap.size := cell_lt d60
  replace hl1 := hl1.below hb7
  go_wp2_with fail
  go_at_call 20
  refine (hg1 _).mono ?_
  rintro e w8 ⟨rfl, hb8⟩
  have s8 := hb8.size
  try simp at s8
  replace d20 := bkeep2 hb8 d20
  replace d21 := bkeep2 hb8 d21
  replace d30 := bkeep2 hb8 d30
  replace d31 := bkeep2 hb8 d31
  replace d60 := bkeep2 hb8 d60
  replace d61 := bkeep2 hb8 d61
  replace d62 := bkeep2 hb8 d62
  replace d63 := bkeep2 hb8 d63
  have l0 : w1.heap.size < w8.heap.size := cell_lt d20
  have l1 : w2.heap.size < w8.heap.size := cell_lt d30
  have l2 : w5.heap.size < w8.heap.size := cell_lt d60
  replace hl1 := hl1.below hb8
  go_wp2_with fail
  go_at_call 20
  refine (hg2 _).mono ?_
  rintro e w9 ⟨rfl, hb9⟩
  have s9 := hb9.size
  try simp at s9
  replace d20 := bkeep2 hb9 d20
  replace d21 := bkeep2 hb9 d21
  replace d30 := bkeep2 hb9 d30
  replace d31 := bkeep2 hb9 d31
  replace d60 := bkeep2 hb9 d60
  replace d61 := bkeep2 hb9 d61
  replace d62 := bkeep2 hb9 d62
  replace d63 := bkeep2 hb9 d63
  have l0 : w1.heap.size < w9.heap.size := cell_lt d20
  have l1 : w2.heap.size < w9.heap.size := cell_lt d30
  have l2 : w5.heap.size < w9.heap.size := cell_lt d60
  replace hl1 := hl1.below hb9
  go_wp2_with fail
  go_at_call 8
  refine (box6_w v f _ hl1).mono ?_
  rintro e w10 ⟨rfl, hb10⟩
  have s10 := hb10.size
  try simp at s10
  replace d20 := bkeep2 hb10 d20
  replace d21 := bkeep2 hb10 d21
  replace d30 := bkeep2 hb10 d30
  replace d31 := bkeep2 hb10 d31
  replace d60 := bkeep2 hb10 d60
  replace d61 := bkeep2 hb10 d61
  replace d62 := bkeep2 hb10 d62
  replace d63 := bkeep2 hb10 d63
  have l0 : w1.heap.size < w10.heap.size := cell_lt d20
  have l1 : w2.heap.size < w10.heap.size := cell_lt d30
  have l2 : w5.heap.size < w10.heap.size := cell_lt d60
  go_wp2_with fail
  clear hl1 hl
  go_at_call 9
  refine (ba _).mono ?_
  rintro e w11 ⟨rfl, hb11⟩
  have s11 := hb11.size
  try simp at s11
  replace d20 := bkeep3 hb11 d20
  replace d21 := bkeep3 hb11 d21
  replace d30 := bkeep3 hb11 d30
  replace d31 := bkeep3 hb11 d31
  replace d60 := bkeep3 hb11 d60
  replace d61 := bkeep3 hb11 d61
  replace d62 := bkeep3 hb11 d62
  replace d63 := bkeep3 hb11 d63
  have d110 : w11.cell? ⟨w10.heap.size, 0, none⟩ = some (.float .f64 (f 6)) := bkeep2 hb11 (by simp [go_sem])
  have d111 : w11.cell? ⟨w10.heap.size, 1, none⟩ = some (.float .f64 (f 7)) := bkeep2 hb11 (by simp [go_sem])
  have d112 : w11.cell? ⟨w10.heap.size, 2, none⟩ = some (.float .f64 (f 8)) := bkeep2 hb11 (by simp [go_sem])
  have d113 : w11.cell? ⟨w10.heap.size, 3, none⟩ = some (.float .f64 (f 9)) := bkeep2 hb11 (by simp [go_sem])
  have l0 : w1.heap.size < w11.heap.size := cell_lt d20
  have l1 : w2.heap.size < w11.heap.size := cell_lt d30
  have l2 : w5.heap.size < w11.heap.size := cell_lt d60
  have l3 : w10.heap.size < w11.heap.size := cell_lt d110
  go_wp2_with fail
  go_at_call 10
  refine (td _).mono ?_
  rintro e w12 ⟨rfl, hb12⟩
  have s12 := hb12.size
  try simp at s12
  replace d20 := bkeep2 hb12 d20
  replace d21 := bkeep2 hb12 d21
  replace d30 := bkeep2 hb12 d30
  replace d31 := bkeep2 hb12 d31
  replace d60 := bkeep2 hb12 d60
  replace d61 := bkeep2 hb12 d61
  replace d62 := bkeep2 hb12 d62
  replace d63 := bkeep2 hb12 d63
  replace d110 := bkeep2 hb12 d110
  replace d111 := bkeep2 hb12 d111
  replace d112 := bkeep2 hb12 d112
  replace d113 := bkeep2 hb12 d113
  have l0 : w1.heap.size < w12.heap.size := cell_lt d20
  have l1 : w2.heap.size < w12.heap.size := cell_lt d30
  have l2 : w5.heap.size < w12.heap.size := cell_lt d60
  have l3 : w10.heap.size < w12.heap.size := cell_lt d110
  go_wp2_with fail
  go_at_call 21
  refine (ii _).mono ?_
  rintro e w' ⟨rfl, rfl⟩
  go_wp2_with fail
  go_at_call 22
  refine (j0 _).mono ?_
  rintro e w13 ⟨rfl, hb13⟩
  have s13 := hb13.size
  try simp at s13
  replace d20 := bkeep3 hb13 d20
  replace d21 := bkeep3 hb13 d21
  replace d30 := bkeep3 hb13 d30
  replace d31 := bkeep3 hb13 d31
  replace d60 := bkeep3 hb13 d60
  replace d61 := bkeep3 hb13 d61
  replace d62 := bkeep3 hb13 d62
  replace d63 := bkeep3 hb13 d63
  replace d110 := bkeep3 hb13 d110
  replace d111 := bkeep3 hb13 d111
  replace d112 := bkeep3 hb13 d112
  replace d113 := bkeep3 hb13 d113
  have d130 : w13.cell? ⟨w12.heap.size, 0, none⟩ = some (.complex .f64 t1 t2) := bkeep2 hb13 (by simp [go_sem])
  have d131 : w13.cell? ⟨w12.heap.size, 1, none⟩ = some (.float .f64 t3) := bkeep2 hb13 (by simp [go_sem])
  have l0 : w1.heap.size < w13.heap.size := cell_lt d20
  have l1 : w2.heap.size < w13.heap.size := cell_lt d30
  have l2 : w5.heap.size < w13.heap.size := cell_lt d60
  have l3 : w10.heap.size < w13.heap.size := cell_lt d110
  have l4 : w12.heap.size < w13.heap.size := cell_lt d130
  go_wp2_with fail
  go_at_call 22
  refine (j1 _).mono ?_
  rintro e w14 ⟨rfl, hb14⟩
  have s14 := hb14.size
  try simp at s14
  replace d20 := bkeep2 hb14 d20
  replace d21 := bkeep2 hb14 d21
  replace d30 := bkeep2 hb14 d30
  replace d31 := bkeep2 hb14 d31
  replace d60 := bkeep2 hb14 d60
  replace d61 := bkeep2 hb14 d61
  replace d62 := bkeep2 hb14 d62
  replace d63 := bkeep2 hb14 d63
  replace d110 := bkeep2 hb14 d110
  replace d111 := bkeep2 hb14 d111
  replace d112 := bkeep2 hb14 d112
  replace d113 := bkeep2 hb14 d113
  replace d130 := bkeep2 hb14 d130
  replace d131 := bkeep2 hb14 d131
  have l0 : w1.heap.size < w14.heap.size := cell_lt d20
  have l1 : w2.heap.size < w14.heap.size := cell_lt d30
  have l2 : w5.heap.size < w14.heap.size := cell_lt d60
  have l3 : w10.heap.size < w14.heap.size := cell_lt d110
  have l4 : w12.heap.size < w14.heap.size := cell_lt d130
  go_wp2_with fail
  go_at_call 22
  refine (j2 _).mono ?_
  rintro e w15 ⟨rfl, hb15⟩
  have s15 := hb15.size
  try simp at s15
  replace d20 := bkeep2 hb15 d20
  replace d21 := bkeep2 hb15 d21
  replace d30 := bkeep2 hb15 d30
  replace d31 := bkeep2 hb15 d31
  replace d60 := bkeep2 hb15 d60
  replace d61 := bkeep2 hb15 d61
  replace d62 := bkeep2 hb15 d62
  replace d63 := bkeep2 hb15 d63
  replace d110 := bkeep2 hb15 d110
  replace d111 := bkeep2 hb15 d111
  replace d112 := bkeep2 hb15 d112
  replace d113 := bkeep2 hb15 d113
  replace d130 := bkeep2 hb15 d130
  replace d131 := bkeep2 hb15 d131
  have l0 : w1.heap.size < w15.heap.size := cell_lt d20
  have l1 : w2.heap.size < w15.heap.size := cell_lt d30
  have l2 : w5.heap.size < w15.heap.size := cell_lt d60
  have l3 : w10.heap.size < w15.heap.size := cell_lt d110
  have l4 : w12.heap.size < w15.heap.size := cell_lt d130
  go_wp2_with fail
  go_at_call 22
  refine (j3 _).mono ?_
  rintro e w16 ⟨rfl, hb16⟩
  have s16 := hb16.size
  try simp at s16
  replace d20 := bkeep2 hb16 d20
  replace d21 := bkeep2 hb16 d21
  replace d30 := bkeep2 hb16 d30
  replace d31 := bkeep2 hb16 d31
  replace d60 := bkeep2 hb16 d60
  replace d61 := bkeep2 hb16 d61
  replace d62 := bkeep2 hb16 d62
  replace d63 := bkeep2 hb16 d63
  replace d110 := bkeep2 hb16 d110
  replace d111 := bkeep2 hb16 d111
  replace d112 := bkeep2 hb16 d112
  replace d113 := bkeep2 hb16 d113
  replace d130 := bkeep2 hb16 d130
  replace d131 := bkeep2 hb16 d131
  have l0 : w1.heap.size < w16.heap.size := cell_lt d20
  have l1 : w2.heap.size < w16.heap.size := cell_lt d30
  have l2 : w5.heap.size < w16.heap.size := cell_lt d60
  have l3 : w10.heap.size < w16.heap.size := cell_lt d110
  have l4 : w12.heap.size < w16.heap.size := cell_lt d130
  go_wp2_with fail
  go_ret
  refine ⟨rfl, ?_⟩
  repeat (with_reducible first | exact Below.refl _ _ | assumption | refine Below.drew ?_ | refine bl_drewN ?_ _ | refine Below.setCell ?_ (by first | omega | (simp; done) | (simp; omega)) _ | refine Below.alloc ?_ (by first | omega | (simp; done) | (simp; omega)) _ | refine bl_next ?_ (by assumption) | refine bl_trans ?_ (by assumption) (by first | omega | (simp; done) | (simp; omega)))

set_option maxRecDepth 100000 in
set_option maxHeartbeats 8000000 in
theorem edges_ttn_w (v : Value) (f : Nat → Nat)
    (pa : ∀ w, Calls Try.prog 15 #[.agg #[.complex .f64 (f 0) (f 1), .float .f64 (f 2)]] w fun e w' => e = .returned (.bool true) ∧ Below w.heap.size w w')
    (pb : ∀ w, Calls Try.prog 15 #[.agg #[.complex .f64 (f 3) (f 4), .float .f64 (f 5)]] w fun e w' => e = .returned (.bool true) ∧ Below w.heap.size w w')
    (g1 g2 g3 h1 h2 h3 n4 n5 : Nat)
    (ca : ∀ w, Calls Try.prog 16 #[.agg #[.complex .f64 (f 0) (f 1), .float .f64 (f 2)], .agg #[.complex .f64 (f 3) (f 4), .float .f64 (f 5)]] w fun e w' => e = .returned (.agg #[.complex .f64 g1 g2, .float .f64 g3]) ∧ Below w.heap.size w w')
    (cb : ∀ w, Calls Try.prog 17 #[.agg #[.complex .f64 (f 0) (f 1), .float .f64 (f 2)], .agg #[.complex .f64 (f 3) (f 4), .float .f64 (f 5)]] w fun e w' => e = .returned (.agg #[.complex .f64 h1 h2, .float .f64 h3]) ∧ Below w.heap.size w w')
    (gc : Op.unary .neg (.complex .f64 (f 3) (f 4)) = pure (.complex .f64 n4 n5))
    (fa : ∀ w, Calls Try.prog 18 #[.agg #[.complex .f64 g1 g2, .float .f64 g3], .agg #[.complex .f64 (f 0) (f 1), .float .f64 (f 2)], .agg #[.complex .f64 (f 3) (f 4), .float .f64 (f 5)]] w fun e w' => e = .returned (.bool true) ∧ Below w.heap.size w w')
    (fb : ∀ w, Calls Try.prog 18 #[.agg #[.complex .f64 h1 h2, .float .f64 h3], .agg #[.complex .f64 (f 0) (f 1), .float .f64 (f 2)], .agg #[.complex .f64 n4 n5, .float .f64 (f 5)]] w fun e w' => e = .returned (.bool true) ∧ Below w.heap.size w w')
    (e1 e2 e3 e4 nr : Nat)
    (tb : ∀ w, Calls Try.prog 7 #[.agg #[.complex .f64 (f 0) (f 1), .float .f64 (f 2)]] w fun e w' => e = .returned (.agg #[.float .f64 e1, .float .f64 e2, .float .f64 e3, .float .f64 e4]) ∧ Below w.heap.size w w')
    (gr : Op.unary .neg (.float .f64 (f 2)) = pure (.float .f64 nr))
    (lw1 : ∀ w, Calls Try.prog 19 #[.float .f64 e1, .float .f64 (f 0), .float .f64 nr] w fun e w' => e = .returned (.bool true) ∧ Below w.heap.size w w')
    (lw2 : ∀ w, Calls Try.prog 19 #[.float .f64 e3, .float .f64 (f 1), .float .f64 nr] w fun e w' => e = .returned (.bool true) ∧ Below w.heap.size w w')
    (hg1 : ∀ w, Calls Try.prog 20 #[.float .f64 e2, .float .f64 (f 0), .float .f64 (f 2)] w fun e w' => e = .returned (.bool true) ∧ Below w.heap.size w w')
    (hg2 : ∀ w, Calls Try.prog 20 #[.float .f64 e4, .float .f64 (f 1), .float .f64 (f 2)] w fun e w' => e = .returned (.bool true) ∧ Below w.heap.size w w')
    (t1 t2 t3 : Nat)
    (ba : ∀ w, Calls Try.prog 9 #[.agg #[.float .f64 (f 6), .float .f64 (f 7), .float .f64 (f 8), .float .f64 (f 9)]] w fun e w' => e = .returned (.bool true) ∧ Below w.heap.size w w')
    (td : ∀ w, Calls Try.prog 10 #[.agg #[.float .f64 (f 6), .float .f64 (f 7), .float .f64 (f 8), .float .f64 (f 9)]] w fun e w' => e = .returned (.agg #[.complex .f64 t1 t2, .float .f64 t3]) ∧ Below w.heap.size w w')
    (om : (Ieee.double.order t3 13830554455654793216 == some .eq) = true)
    (w : World) (hl : Lst w v f) :
    Calls Try.prog 4 #[v] w fun e w' => e = .returned (.bool true) ∧ Below w.heap.size w w' := by
  go_enter Try.func4, Try.ntmps4
  go_wp2_with fail
  go_at_call 5
  refine (disc0_w v f _ hl).mono ?_
  rintro e w1 ⟨rfl, hb1⟩
  have s1 := hb1.size
  try simp at s1
  have hl1 := (hl.below hb1).below (bl_alloc (o := .cells #[.complex .f64 (f 0) (f 1), .float .f64 (f 2)] 26) (Below.refl _ _))
  go_wp2_with fail
  go_at_call 5
  refine (disc3_w v f _ hl1).mono ?_
  rintro e w2 ⟨rfl, hb2⟩
  have s2 := hb2.size
  try simp at s2
  have d20 : w2.cell? ⟨w1.heap.size, 0, none⟩ = some (.complex .f64 (f 0) (f 1)) := bkeep2 hb2 (by simp [go_sem])
  have d21 : w2.cell? ⟨w1.heap.size, 1, none⟩ = some (.float .f64 (f 2)) := bkeep2 hb2 (by simp [go_sem])
  have l0 : w1.heap.size < w2.heap.size := cell_lt d20
  replace hl1 := (hl1.below hb2).below (bl_alloc (o := .cells #[.complex .f64 (f 3) (f 4), .float .f64 (f 5)] 26) (Below.refl _ _))
  go_wp2_with fail
  go_at_call 15
  refine (pa _).mono ?_
  rintro e w3 ⟨rfl, hb3⟩
  have s3 := hb3.size
  try simp at s3
  replace d20 := bkeep3 hb3 d20
  replace d21 := bkeep3 hb3 d21
  have d30 : w3.cell? ⟨w2.heap.size, 0, none⟩ = some (.complex .f64 (f 3) (f 4)) := bkeep2 hb3 (by simp [go_sem])
  have d31 : w3.cell? ⟨w2.heap.size, 1, none⟩ = some (.float .f64 (f 5)) := bkeep2 hb3 (by simp [go_sem])
  have l0 : w1.heap.size < w3.heap.size := cell_lt d20
  have l1 : w2.heap.size < w3.heap.size := cell_lt d30
  replace hl1 := hl1.below hb3
  go_wp2_with fail
  go_at_call 15
  refine (pb _).mono ?_
  rintro e w4 ⟨rfl, hb4⟩
  have s4 := hb4.size
  try simp at s4
  replace d20 := bkeep2 hb4 d20
  replace d21 := bkeep2 hb4 d21
  replace d30 := bkeep2 hb4 d30
  replace d31 := bkeep2 hb4 d31
  have l0 : w1.heap.size < w4.heap.size := cell_lt d20
  have l1 : w2.heap.size < w4.heap.size := cell_lt d30
  replace hl1 := hl1.below hb4
  go_wp2_with fail
  go_at_call 16
  refine (ca _).mono ?_
  rintro e w5 ⟨rfl, hb5⟩
  have s5 := hb5.size
  try simp at s5
  replace d20 := bkeep2 hb5 d20
  replace d21 := bkeep2 hb5 d21
  replace d30 := bkeep2 hb5 d30
  replace d31 := bkeep2 hb5 d31
  have l0 : w1.heap.size < w5.heap.size := cell_lt d20
  have l1 : w2.heap.size < w5.heap.size := cell_lt d30
  replace hl1 := (hl1.below hb5).below (bl_alloc (o := .cells #[.complex .f64 g1 g2, .float .f64 g3] 26) (Below.refl _ _))
  go_wp2_with fail
  go_at_call 17
  refine (cb _).mono ?_
  rintro e w6 ⟨rfl, hb6⟩
  have s6 := hb6.size
  try simp at s6
  replace d20 := bkeep3 hb6 d20
  replace d21 := bkeep3 hb6 d21
  replace d30 := bkeep3 hb6 d30
  replace d31 := bkeep3 hb6 d31
  have d60 : w6.cell? ⟨w5.heap.size, 0, none⟩ = some (.complex .f64 g1 g2) := bkeep2 hb6 (by simp [go_sem])
  have d61 : w6.cell? ⟨w5.heap.size, 1, none⟩ = some (.float .f64 g3) := bkeep2 hb6 (by simp [go_sem])
  have l0 : w1.heap.size < w6.heap.size := cell_lt d20
  have l1 : w2.heap.size < w6.heap.size := cell_lt d30
  have l2 : w5.heap.size < w6.heap.size := cell_lt d60
  replace hl1 := (hl1.below hb6).below (bl_alloc (o := .cells #[.complex .f64 h1 h2, .float .f64 h3] 26) (Below.refl _ _))
  go_wp2_with fail
  go_at_call 18
  refine (fa _).mono ?_
  rintro e w7 ⟨rfl, hb7⟩
  have s7 := hb7.size
  try simp at s7
  replace d20 := bkeep3 hb7 d20
  replace d21 := bkeep3 hb7 d21
  replace d30 := bkeep3 hb7 d30
  replace d31 := bkeep3 hb7 d31
  replace d60 := bkeep3 hb7 d60
  replace d61 := bkeep3 hb7 d61
  have d70 : w7.cell? ⟨w6.heap.size, 0, none⟩ = some (.complex .f64 h1 h2) := bkeep2 hb7 (by simp [go_sem])
  have d71 : w7.cell? ⟨w6.heap.size, 1, none⟩ = some (.float .f64 h3) := bkeep2 hb7 (by simp [go_sem])
  have l0 : w1.heap.size < w7.heap.size := cell_lt d20
  have l1 : w2.heap.size < w7.heap.size := cell_lt d30
  have l2 : w5.heap.size < w7.heap.size := cell_lt d60
  have l3 : w6.heap.size < w7.heap.size := cell_lt d70
  replace hl1 := hl1.below hb7
  go_wp2_with fail
  go_at_call 18
  refine (fb _).mono ?_
  rintro e w8 ⟨rfl, hb8⟩
  have s8 := hb8.size
  try simp at s8
  replace d20 := bkeep2 hb8 d20
  replace d21 := bkeep2 hb8 d21
  replace d30 := bkeep2 hb8 d30
  replace d31 := bkeep2 hb8 d31
  replace d60 := bkeep2 hb8 d60
  replace d61 := bkeep2 hb8 d61
  replace d70 := bkeep2 hb8 d70
  replace d71 := bkeep2 hb8 d71
  have l0 : w1.heap.size < w8.heap.size := cell_lt d20
  have l1 : w2.heap.size < w8.heap.size := cell_lt d30
  have l2 : w5.heap.size < w8.heap.size := cell_lt d60
  have l3 : w6.heap.size < w8.heap.size := cell_lt d70
  replace hl1 := hl1.below hb8
  go_wp2_with fail
  go_at_call 7
  refine (tb _).mono ?_
  rintro e w9 ⟨rfl, hb9⟩
  have s9 := hb9.size
  try simp at s9
  replace d20 := bkeep2 hb9 d20
  replace d21 := bkeep2 hb9 d21
  replace d30 := bkeep2 hb9 d30
  replace d31 := bkeep2 hb9 d31
  replace d60 := bkeep2 hb9 d60
  replace d61 := bkeep2 hb9 d61
  replace d70 := bkeep2 hb9 d70
  replace d71 := bkeep2 hb9 d71
  have l0 : w1.heap.size < w9.heap.size := cell_lt d20
  have l1 : w2.heap.size < w9.heap.size := cell_lt d30
  have l2 : w5.heap.size < w9.heap.size := cell_lt d60
  have l3 : w6.heap.size < w9.heap.size := cell_lt d70
  replace hl1 := (hl1.below hb9).below (bl_alloc (o := .cells #[.float .f64 e1, .float .f64 e2, .float .f64 e3, .float .f64 e4] 32) (Below.refl _ _))
  go_wp2_with fail
  go_at_call 19
  refine (lw1 _).mono ?_
  rintro e w10 ⟨rfl, hb10⟩
  have s10 := hb10.size
  try simp at s10
  replace d20 := bkeep3 hb10 d20
  replace d21 := bkeep3 hb10 d21
  replace d30 := bkeep3 hb10 d30
  replace d31 := bkeep3 hb10 d31
  replace d60 := bkeep3 hb10 d60
  replace d61 := bkeep3 hb10 d61
  replace d70 := bkeep3 hb10 d70
  replace d71 := bkeep3 hb10 d71
  have d100 : w10.cell? ⟨w9.heap.size, 0, none⟩ = some (.float .f64 e1) := bkeep2 hb10 (by simp [go_sem])
  have d101 : w10.cell? ⟨w9.heap.size, 1, none⟩ = some (.float .f64 e2) := bkeep2 hb10 (by simp [go_sem])
  have d102 : w10.cell? ⟨w9.heap.size, 2, none⟩ = some (.float .f64 e3) := bkeep2 hb10 (by simp [go_sem])
  have d103 : w10.cell? ⟨w9.heap.size, 3, none⟩ = some (.float .f64 e4) := bkeep2 hb10 (by simp [go_sem])
  have l0 : w1.heap.size < w10.heap.size := cell_lt d20
  have l1 : w2.heap.size < w10.heap.size := cell_lt d30
  have l2 : w5.heap.size < w10.heap.size := cell_lt d60
  have l3 : w6.heap.size < w10.heap.size := cell_lt d70
  have l4 : w9.heap.size < w10.heap.size := cell_lt d100
  replace hl1 := hl1.below hb10
  go_wp2_with fail
  go_at_call 19
  refine (lw2 _).mono ?_
  rintro e w11 ⟨rfl, hb11⟩
  have s11 := hb11.size
  try simp at s11
  replace d20 := bkeep2 hb11 d20
  replace d21 := bkeep2 hb11 d21
  replace d30 := bkeep2 hb11 d30
  replace d31 := bkeep2 hb11 d31
  replace d60 := bkeep2 hb11 d60
  replace d61 := bkeep2 hb11 d61
  replace d70 := bkeep2 hb11 d70
  replace d71 := bkeep2 hb11 d71
  replace d100 := bkeep2 hb11 d100
  replace d101 := bkeep2 hb11 d101
  replace d102 := bkeep2 hb11 d102
  replace d103 := bkeep2 hb11 d103
  have l0 : w1.heap.size < w11.heap.size := cell_lt d20
  have l1 : w2.heap.size < w11.heap.size := cell_lt d30
  have l2 : w5.heap.size < w11.heap.size := cell_lt d60
  have l3 : w6.heap.size < w11.heap.size := cell_lt d70
  have l4 : w9.heap.size < w11.heap.size := cell_lt d100
  replace hl1 := hl1.below hb11
  go_wp2_with fail
  go_at_call 20
  refine (hg1 _).mono ?_
  rintro e w12 ⟨rfl, hb12⟩
  have s12 := hb12.size
  try simp at s12
  replace d20 := bkeep2 hb12 d20
  replace d21 := bkeep2 hb12 d21
  replace d30 := bkeep2 hb12 d30
  replace d31 := bkeep2 hb12 d31
  replace d60 := bkeep2 hb12 d60
  replace d61 := bkeep2 hb12 d61
  replace d70 := bkeep2 hb12 d70
  replace d71 := bkeep2 hb12 d71
  replace d100 := bkeep2 hb12 d100
  replace d101 := bkeep2 hb12 d101
  replace d102 := bkeep2 hb12 d102
  replace d103 := bkeep2 hb12 d103
  have l0 : w1.heap.size < w12.heap.size := cell_lt d20
  have l1 : w2.heap.size < w12.heap.size := cell_lt d30
  have l2 : w5.heap.size < w12.heap.size := cell_lt d60
  have l3 : w6.heap.size < w12.heap.size := cell_lt d70
  have l4 : w9.heap.size < w12.heap.size := cell_lt d100
  replace hl1 := hl1.below hb12
  go_wp2_with fail
  go_at_call 20
  refine (hg2 _).mono ?_
  rintro e w13 ⟨rfl, hb13⟩
  have s13 := hb13.size
  try simp at s13
  replace d20 := bkeep2 hb13 d20
  replace d21 := bkeep2 hb13 d21
  replace d30 := bkeep2 hb13 d30
  replace d31 := bkeep2 hb13 d31
  replace d60 := bkeep2 hb13 d60
  replace d61 := bkeep2 hb13 d61
  replace d70 := bkeep2 hb13 d70
  replace d71 := bkeep2 hb13 d71
  replace d100 := bkeep2 hb13 d100
  replace d101 := bkeep2 hb13 d101
  replace d102 := bkeep2 hb13 d102
  replace d103 := bkeep2 hb13 d103
  have l0 : w1.heap.size < w13.heap.size := cell_lt d20
  have l1 : w2.heap.size < w13.heap.size := cell_lt d30
  have l2 : w5.heap.size < w13.heap.size := cell_lt d60
  have l3 : w6.heap.size < w13.heap.size := cell_lt d70
  have l4 : w9.heap.size < w13.heap.size := cell_lt d100
  replace hl1 := hl1.below hb13
  go_wp2_with fail
  go_at_call 8
  refine (box6_w v f _ hl1).mono ?_
  rintro e w14 ⟨rfl, hb14⟩
  have s14 := hb14.size
  try simp at s14
  replace d20 := bkeep2 hb14 d20
  replace d21 := bkeep2 hb14 d21
  replace d30 := bkeep2 hb14 d30
  replace d31 := bkeep2 hb14 d31
  replace d60 := bkeep2 hb14 d60
  replace d61 := bkeep2 hb14 d61
  replace d70 := bkeep2 hb14 d70
  replace d71 := bkeep2 hb14 d71
  replace d100 := bkeep2 hb14 d100
  replace d101 := bkeep2 hb14 d101
  replace d102 := bkeep2 hb14 d102
  replace d103 := bkeep2 hb14 d103
  have l0 : w1.heap.size < w14.heap.size := cell_lt d20
  have l1 : w2.heap.size < w14.heap.size := cell_lt d30
  have l2 : w5.heap.size < w14.heap.size := cell_lt d60
  have l3 : w6.heap.size < w14.heap.size := cell_lt d70
  have l4 : w9.heap.size < w14.heap.size := cell_lt d100
  go_wp2_with fail
  clear hl1 hl
  go_at_call 9
  refine (ba _).mono ?_
  rintro e w15 ⟨rfl, hb15⟩
  have s15 := hb15.size
  try simp at s15
  replace d20 := bkeep3 hb15 d20
  replace d21 := bkeep3 hb15 d21
  replace d30 := bkeep3 hb15 d30
  replace d31 := bkeep3 hb15 d31
  replace d60 := bkeep3 hb15 d60
  replace d61 := bkeep3 hb15 d61
  replace d70 := bkeep3 hb15 d70
  replace d71 := bkeep3 hb15 d71
  replace d100 := bkeep3 hb15 d100
  replace d101 := bkeep3 hb15 d101
  replace d102 := bkeep3 hb15 d102
  replace d103 := bkeep3 hb15 d103
  have d150 : w15.cell? ⟨w14.heap.size, 0, none⟩ = some (.float .f64 (f 6)) := bkeep2 hb15 (by simp [go_sem])
  have d151 : w15.cell? ⟨w14.heap.size, 1, none⟩ = some (.float .f64 (f 7)) := bkeep2 hb15 (by simp [go_sem])
  have d152 : w15.cell? ⟨w14.heap.size, 2, none⟩ = some (.float .f64 (f 8)) := bkeep2 hb15 (by simp [go_sem])
  have d153 : w15.cell? ⟨w14.heap.size, 3, none⟩ = some (.float .f64 (f 9)) := bkeep2 hb15 (by simp [go_sem])
  have l0 : w1.heap.size < w15.heap.size := cell_lt d20
  have l1 : w2.heap.size < w15.heap.size := cell_lt d30
  have l2 : w5.heap.size < w15.heap.size := cell_lt d60
  have l3 : w6.heap.size < w15.heap.size := cell_lt d70
  have l4 : w9.heap.size < w15.heap.size := cell_lt d100
  have l5 : w14.heap.size < w15.heap.size := cell_lt d150
  go_wp2_with fail
  go_at_call 10
  refine (td _).mono ?_
  rintro e w16 ⟨rfl, hb16⟩
  have s16 := hb16.size
  try simp at s16
  replace d20 := bkeep2 hb16 d20
  replace d21 := bkeep2 hb16 d21
  replace d30 := bkeep2 hb16 d30
  replace d31 := bkeep2 hb16 d31
  replace d60 := bkeep2 hb16 d60
  replace d61 := bkeep2 hb16 d61
  replace d70 := bkeep2 hb16 d70
  replace d71 := bkeep2 hb16 d71
  replace d100 := bkeep2 hb16 d100
  replace d101 := bkeep2 hb16 d101
  replace d102 := bkeep2 hb16 d102
  replace d103 := bkeep2 hb16 d103
  replace d150 := bkeep2 hb16 d150
  replace d151 := bkeep2 hb16 d151
  replace d152 := bkeep2 hb16 d152
  replace d153 := bkeep2 hb16 d153
  have l0 : w1.heap.size < w16.heap.size := cell_lt d20
  have l1 : w2.heap.size < w16.heap.size := cell_lt d30
  have l2 : w5.heap.size < w16.heap.size := cell_lt d60
  have l3 : w6.heap.size < w16.heap.size := cell_lt d70
  have l4 : w9.heap.size < w16.heap.size := cell_lt d100
  have l5 : w14.heap.size < w16.heap.size := cell_lt d150
  go_wp2_with fail
  go_ret
  refine ⟨rfl, ?_⟩
  repeat (with_reducible first | exact Below.refl _ _ | assumption | refine Below.drew ?_ | refine bl_drewN ?_ _ | refine Below.setCell ?_ (by first | omega | (simp; done) | (simp; omega)) _ | refine Below.alloc ?_ (by first | omega | (simp; done) | (simp; omega)) _ | refine bl_next ?_ (by assumption) | refine bl_trans ?_ (by assumption) (by first | omega | (simp; done) | (simp; omega)))

set_option maxRecDepth 100000 in
set_option maxHeartbeats 8000000 in
theorem edges_tti_w (v : Value) (f : Nat → Nat)
    (pa : ∀ w, Calls Try.prog 15 #[.agg #[.complex .f64 (f 0) (f 1), .float .f64 (f 2)]] w fun e w' => e = .returned (.bool true) ∧ Below w.heap.size w w')
    (pb : ∀ w, Calls Try.prog 15 #[.agg #[.complex .f64 (f 3) (f 4), .float .f64 (f 5)]] w fun e w' => e = .returned (.bool true) ∧ Below w.heap.size w w')
    (g1 g2 g3 h1 h2 h3 n4 n5 : Nat)
    (ca : ∀ w, Calls Try.prog 16 #[.agg #[.complex .f64 (f 0) (f 1), .float .f64 (f 2)], .agg #[.complex .f64 (f 3) (f 4), .float .f64 (f 5)]] w fun e w' => e = .returned (.agg #[.complex .f64 g1 g2, .float .f64 g3]) ∧ Below w.heap.size w w')
    (cb : ∀ w, Calls Try.prog 17 #[.agg #[.complex .f64 (f 0) (f 1), .float .f64 (f 2)], .agg #[.complex .f64 (f 3) (f 4), .float .f64 (f 5)]] w fun e w' => e = .returned (.agg #[.complex .f64 h1 h2, .float .f64 h3]) ∧ Below w.heap.size w w')
    (gc : Op.unary .neg (.complex .f64 (f 3) (f 4)) = pure (.complex .f64 n4 n5))
    (fa : ∀ w, Calls Try.prog 18 #[.agg #[.complex .f64 g1 g2, .float .f64 g3], .agg #[.complex .f64 (f 0) (f 1), .float .f64 (f 2)], .agg #[.complex .f64 (f 3) (f 4), .float .f64 (f 5)]] w fun e w' => e = .returned (.bool true) ∧ Below w.heap.size w w')
    (fb : ∀ w, Calls Try.prog 18 #[.agg #[.complex .f64 h1 h2, .float .f64 h3], .agg #[.complex .f64 (f 0) (f 1), .float .f64 (f 2)], .agg #[.complex .f64 n4 n5, .float .f64 (f 5)]] w fun e w' => e = .returned (.bool true) ∧ Below w.heap.size w w')
    (e1 e2 e3 e4 nr : Nat)
    (tb : ∀ w, Calls Try.prog 7 #[.agg #[.complex .f64 (f 0) (f 1), .float .f64 (f 2)]] w fun e w' => e = .returned (.agg #[.float .f64 e1, .float .f64 e2, .float .f64 e3, .float .f64 e4]) ∧ Below w.heap.size w w')
    (gr : Op.unary .neg (.float .f64 (f 2)) = pure (.float .f64 nr))
    (lw1 : ∀ w, Calls Try.prog 19 #[.float .f64 e1, .float .f64 (f 0), .float .f64 nr] w fun e w' => e = .returned (.bool true) ∧ Below w.heap.size w w')
    (lw2 : ∀ w, Calls Try.prog 19 #[.float .f64 e3, .float .f64 (f 1), .float .f64 nr] w fun e w' => e = .returned (.bool true) ∧ Below w.heap.size w w')
    (hg1 : ∀ w, Calls Try.prog 20 #[.float .f64 e2, .float .f64 (f 0), .float .f64 (f 2)] w fun e w' => e = .returned (.bool true) ∧ Below w.heap.size w w')
    (hg2 : ∀ w, Calls Try.prog 20 #[.float .f64 e4, .float .f64 (f 1), .float .f64 (f 2)] w fun e w' => e = .returned (.bool true) ∧ Below w.heap.size w w')
    (t1 t2 t3 : Nat)
    (ba : ∀ w, Calls Try.prog 9 #[.agg #[.float .f64 (f 6), .float .f64 (f 7), .float .f64 (f 8), .float .f64 (f 9)]] w fun e w' => e = .returned (.bool false) ∧ Below w.heap.size w w')
    (td : ∀ w, Calls Try.prog 10 #[.agg #[.float .f64 (f 6), .float .f64 (f 7), .float .f64 (f 8), .float .f64 (f 9)]] w fun e w' => e = .returned (.agg #[.complex .f64 t1 t2, .float .f64 t3]) ∧ Below w.heap.size w w')
    (ii : ∀ w, Calls Try.prog 21 #[.float .f64 t3, .int .i64 1] w fun e w' => e = .returned (.bool true) ∧ w' = w)
    (om : (Ieee.double.order t3 13830554455654793216 == some .eq) = false)
    (w : World) (hl : Lst w v f) :
    Calls Try.prog 4 #[v] w fun e w' => e = .returned (.bool true) ∧ Below w.heap.size w w' := by
  go_enter Try.func4, Try.ntmps4
  go_wp2_with fail
  go_at_call 5
  refine (disc0_w v f _ hl).mono ?_
  rintro e w1 ⟨rfl, hb1⟩
  have s1 := hb1.size
  try simp at s1
  have hl1 := (hl.below hb1).below (bl_alloc (o := .cells #[.complex .f64 (f 0) (f 1), .float .f64 (f 2)] 26) (Below.refl _ _))
  go_wp2_with fail
  go_at_call 5
  refine (disc3_w v f _ hl1).mono ?_
  rintro e w2 ⟨rfl, hb2⟩
  have s2 := hb2.size
  try simp at s2
  have d20 : w2.cell? ⟨w1.heap.size, 0, none⟩ = some (.complex .f64 (f 0) (f 1)) := bkeep2 hb2 (by simp [go_sem])
  have d21 : w2.cell? ⟨w1.heap.size, 1, none⟩ = some (.float .f64 (f 2)) := bkeep2 hb2 (by simp [go_sem])
  have l0 : w1.heap.size < w2.heap.size := cell_lt d20
  replace hl1 := (hl1.below hb2).below (bl_alloc (o := .cells #[.complex .f64 (f 3) (f 4), .float .f64 (f 5)] 26) (Below.refl _ _))
  go_wp2_with fail
  go_at_call 15
  refine (pa _).mono ?_
  rintro e w3 ⟨rfl, hb3⟩
  have s3 := hb3.size
  try simp at s3
  replace d20 := bkeep3 hb3 d20
  replace d21 := bkeep3 hb3 d21
  have d30 : w3.cell? ⟨w2.heap.size, 0, none⟩ = some (.complex .f64 (f 3) (f 4)) := bkeep2 hb3 (by simp [go_sem])
  have d31 : w3.cell? ⟨w2.heap.size, 1, none⟩ = some (.float .f64 (f 5)) := bkeep2 hb3 (by simp [go_sem])
  have l0 : w1.heap.size < w3.heap.size := cell_lt d20
  have l1 : w2.heap.size < w3.heap.size := cell_lt d30
  replace hl1 := hl1.below hb3
  go_wp2_with fail
  go_at_call 15
  refine (pb _).mono ?_
  rintro e w4 ⟨rfl, hb4⟩
  have s4 := hb4.size
  try simp at s4
  replace d20 := bkeep2 hb4 d20
  replace d21 := bkeep2 hb4 d21
  replace d30 := bkeep2 hb4 d30
  replace d31 := bkeep2 hb4 d31
  have l0 : w1.heap.size < w4.heap.size := cell_lt d20
  have l1 : w2.heap.size < w4.heap.size := cell_lt d30
  replace hl1 := hl1.below hb4
  go_wp2_with fail
  go_at_call 16
  refine (ca _).mono ?_
  rintro e w5 ⟨rfl, hb5⟩
  have s5 := hb5.size
  try simp at s5
  replace d20 := bkeep2 hb5 d20
  replace d21 := bkeep2 hb5 d21
  replace d30 := bkeep2 hb5 d30
  replace d31 := bkeep2 hb5 d31
  have l0 : w1.heap.size < w5.heap.size := cell_lt d20
  have l1 : w2.heap.size < w5.heap.size := cell_lt d30
  replace hl1 := (hl1.below hb5).below (bl_alloc (o := .cells #[.complex .f64 g1 g2, .float .f64 g3] 26) (Below.refl _ _))
  go_wp2_with fail
  go_at_call 17
  refine (cb _).mono ?_
  rintro e w6 ⟨rfl, hb6⟩
  have s6 := hb6.size
  try simp at s6
  replace d20 := bkeep3 hb6 d20
  replace d21 := bkeep3 hb6 d21
  replace d30 := bkeep3 hb6 d30
  replace d31 := bkeep3 hb6 d31
  have d60 : w6.cell? ⟨w5.heap.size, 0, none⟩ = some (.complex .f64 g1 g2) := bkeep2 hb6 (by simp [go_sem])
  have d61 : w6.cell? ⟨w5.heap.size, 1, none⟩ = some (.float .f64 g3) := bkeep2 hb6 (by simp [go_sem])
  have l0 : w1.heap.size < w6.heap.size := cell_lt d20
  have l1 : w2.heap.size < w6.heap.size := cell_lt d30
  have l2 : w5.heap.size < w6.heap.size := cell_lt d60
  replace hl1 := (hl1.below hb6).below (bl_alloc (o := .cells #[.complex .f64 h1 h2, .float .f64 h3] 26) (Below.refl _ _))
  go_wp2_with fail
  go_at_call 18
  refine (fa _).mono ?_
  rintro e w7 ⟨rfl, hb7⟩
  have s7 := hb7.size
  try simp at s7
  replace d20 := bkeep3 hb7 d20
  replace d21 := bkeep3 hb7 d21
  replace d30 := bkeep3 hb7 d30
  replace d31 := bkeep3 hb7 d31
  replace d60 := bkeep3 hb7 d60
  replace d61 := bkeep3 hb7 d61
  have d70 : w7.cell? ⟨w6.heap.size, 0, none⟩ = some (.complex .f64 h1 h2) := bkeep2 hb7 (by simp [go_sem])
  have d71 : w7.cell? ⟨w6.heap.size, 1, none⟩ = some (.float .f64 h3) := bkeep2 hb7 (by simp [go_sem])
  have l0 : w1.heap.size < w7.heap.size := cell_lt d20
  have l1 : w2.heap.size < w7.heap.size := cell_lt d30
  have l2 : w5.heap.size < w7.heap.size := cell_lt d60
  have l3 : w6.heap.size < w7.heap.size := cell_lt d70
  replace hl1 := hl1.below hb7
  go_wp2_with fail
  go_at_call 18
  refine (fb _).mono ?_
  rintro e w8 ⟨rfl, hb8⟩
  have s8 := hb8.size
  try simp at s8
  replace d20 := bkeep2 hb8 d20
  replace d21 := bkeep2 hb8 d21
  replace d30 := bkeep2 hb8 d30
  replace d31 := bkeep2 hb8 d31
  replace d60 := bkeep2 hb8 d60
  replace d61 := bkeep2 hb8 d61
  replace d70 := bkeep2 hb8 d70
  replace d71 := bkeep2 hb8 d71
  have l0 : w1.heap.size < w8.heap.size := cell_lt d20
  have l1 : w2.heap.size < w8.heap.size := cell_lt d30
  have l2 : w5.heap.size < w8.heap.size := cell_lt d60
  have l3 : w6.heap.size < w8.heap.size := cell_lt d70
  replace hl1 := hl1.below hb8
  go_wp2_with fail
  go_at_call 7
  refine (tb _).mono ?_
  rintro e w9 ⟨rfl, hb9⟩
  have s9 := hb9.size
  try simp at s9
  replace d20 := bkeep2 hb9 d20
  replace d21 := bkeep2 hb9 d21
  replace d30 := bkeep2 hb9 d30
  replace d31 := bkeep2 hb9 d31
  replace d60 := bkeep2 hb9 d60
  replace d61 := bkeep2 hb9 d61
  replace d70 := bkeep2 hb9 d70
  replace d71 := bkeep2 hb9 d71
  have l0 : w1.heap.size < w9.heap.size := cell_lt d20
  have l1 : w2.heap.size < w9.heap.size := cell_lt d30
  have l2 : w5.heap.size < w9.heap.size := cell_lt d60
  have l3 : w6.heap.size < w9.heap.size := cell_lt d70
  replace hl1 := (hl1.below hb9).below (bl_alloc (o := .cells #[.float .f64 e1, .float .f64 e2, .float .f64 e3, .float .f64 e4] 32) (Below.refl _ _))
  go_wp2_with fail
  go_at_call 19
  refine (lw1 _).mono ?_
  rintro e w10 ⟨rfl, hb10⟩
  have s10 := hb10.size
  try simp at s10
  replace d20 := bkeep3 hb10 d20
  replace d21 := bkeep3 hb10 d21
  replace d30 := bkeep3 hb10 d30
  replace d31 := bkeep3 hb10 d31
  replace d60 := bkeep3 hb10 d60
  replace d61 := bkeep3 hb10 d61
  replace d70 := bkeep3 hb10 d70
  replace d71 := bkeep3 hb10 d71
  have d100 : w10.cell? ⟨w9.heap.size, 0, none⟩ = some (.float .f64 e1) := bkeep2 hb10 (by simp [go_sem])
  have d101 : w10.cell? ⟨w9.heap.size, 1, none⟩ = some (.float .f64 e2) := bkeep2 hb10 (by simp [go_sem])
  have d102 : w10.cell? ⟨w9.heap.size, 2, none⟩ = some (.float .f64 e3) := bkeep2 hb10 (by simp [go_sem])
  have d103 : w10.cell? ⟨w9.heap.size, 3, none⟩ = some (.float .f64 e4) := bkeep2 hb10 (by simp [go_sem])
  have l0 : w1.heap.size < w10.heap.size := cell_lt d20
  have l1 : w2.heap.size < w10.heap.size := cell_lt d30
  have l2 : w5.heap.size < w10.heap.size := cell_lt d60
  have l3 : w6.heap.size < w10.heap.size := cell_lt d70
  have l4 : w9.heap.size < w10.heap.size := cell_lt d100
  replace hl1 := hl1.below hb10
  go_wp2_with fail
  go_at_call 19
  refine (lw2 _).mono ?_
  rintro e w11 ⟨rfl, hb11⟩
  have s11 := hb11.size
  try simp at s11
  replace d20 := bkeep2 hb11 d20
  replace d21 := bkeep2 hb11 d21
  replace d30 := bkeep2 hb11 d30
  replace d31 := bkeep2 hb11 d31
  replace d60 := bkeep2 hb11 d60
  replace d61 := bkeep2 hb11 d61
  replace d70 := bkeep2 hb11 d70
  replace d71 := bkeep2 hb11 d71
  replace d100 := bkeep2 hb11 d100
  replace d101 := bkeep2 hb11 d101
  replace d102 := bkeep2 hb11 d102
  replace d103 := bkeep2 hb11 d103
  have l0 : w1.heap.size < w11.heap.size := cell_lt d20
  have l1 : w2.heap.size < w11.heap.size := cell_lt d30
  have l2 : w5.heap.size < w11.heap.size := cell_lt d60
  have l3 : w6.heap.size < w11.heap.size := cell_lt d70
  have l4 : w9.heap.size < w11.heap.size := cell_lt d100
  replace hl1 := hl1.below hb11
  go_wp2_with fail
  go_at_call 20
  refine (hg1 _).mono ?_
  rintro e w12 ⟨rfl, hb12⟩
  have s12 := hb12.size
  try simp at s12
  replace d20 := bkeep2 hb12 d20
  replace d21 := bkeep2 hb12 d21
  replace d30 := bkeep2 hb12 d30
  replace d31 := bkeep2 hb12 d31
  replace d60 := bkeep2 hb12 d60
  replace d61 := bkeep2 hb12 d61
  replace d70 := bkeep2 hb12 d70
  replace d71 := bkeep2 hb12 d71
  replace d100 := bkeep2 hb12 d100
  replace d101 := bkeep2 hb12 d101
  replace d102 := bkeep2 hb12 d102
  replace d103 := bkeep2 hb12 d103
  have l0 : w1.heap.size < w12.heap.size := cell_lt d20
  have l1 : w2.heap.size < w12.heap.size := cell_lt d30
  have l2 : w5.heap.size < w12.heap.size := cell_lt d60
  have l3 : w6.heap.size < w12.heap.size := cell_lt d70
  have l4 : w9.heap.size < w12.heap.size := cell_lt d100
  replace hl1 := hl1.below hb12
  go_wp2_with fail
  go_at_call 20
  refine (hg2 _).mono ?_
  rintro e w13 ⟨rfl, hb13⟩
  have s13 := hb13.size
  try simp at s13
  replace d20 := bkeep2 hb13 d20
  replace d21 := bkeep2 hb13 d21
  replace d30 := bkeep2 hb13 d30
  replace d31 := bkeep2 hb13 d31
  replace d60 := bkeep2 hb13 d60
  replace d61 := bkeep2 hb13 d61
  replace d70 := bkeep2 hb13 d70
  replace d71 := bkeep2 hb13 d71
  replace d100 := bkeep2 hb13 d100
  replace d101 := bkeep2 hb13 d101
  replace d102 := bkeep2 hb13 d102
  replace d103 := bkeep2 hb13 d103
  have l0 : w1.heap.size < w13.heap.size := cell_lt d20
  have l1 : w2.heap.size < w13.heap.size := cell_lt d30
  have l2 : w5.heap.size < w13.heap.size := cell_lt d60
  have l3 : w6.heap.size < w13.heap.size := cell_lt d70
  have l4 : w9.heap.size < w13.heap.size := cell_lt d100
  replace hl1 := hl1.below hb13
  go_wp2_with fail
  go_at_call 8
  refine (box6_w v f _ hl1).mono ?_
  rintro e w14 ⟨rfl, hb14⟩
  have s14 := hb14.size
  try simp at s14
  replace d20 := bkeep2 hb14 d20
  replace d21 := bkeep2 hb14 d21
  replace d30 := bkeep2 hb14 d30
  replace d31 := bkeep2 hb14 d31
  replace d60 := bkeep2 hb14 d60
  replace d61 := bkeep2 hb14 d61
  replace d70 := bkeep2 hb14 d70
  replace d71 := bkeep2 hb14 d71
  replace d100 := bkeep2 hb14 d100
  replace d101 := bkeep2 hb14 d101
  replace d102 := bkeep2 hb14 d102
  replace d103 := bkeep2 hb14 d103
  have l0 : w1.heap.size < w14.heap.size := cell_lt d20
  have l1 : w2.heap.size < w14.heap.size := cell_lt d30
  have l2 : w5.heap.size < w14.heap.size := cell_lt d60
  have l3 : w6.heap.size < w14.heap.size := cell_lt d70
  have l4 : w9.heap.size < w14.heap.size := cell_lt d100
  go_wp2_with fail
  clear hl1 hl
  go_at_call 9
  refine (ba _).mono ?_
  rintro e w15 ⟨rfl, hb15⟩
  have s15 := hb15.size
  try simp at s15
  replace d20 := bkeep3 hb15 d20
  replace d21 := bkeep3 hb15 d21
  replace d30 := bkeep3 hb15 d30
  replace d31 := bkeep3 hb15 d31
  replace d60 := bkeep3 hb15 d60
  replace d61 := bkeep3 hb15 d61
  replace d70 := bkeep3 hb15 d70
  replace d71 := bkeep3 hb15 d71
  replace d100 := bkeep3 hb15 d100
  replace d101 := bkeep3 hb15 d101
  replace d102 := bkeep3 hb15 d102
  replace d103 := bkeep3 hb15 d103
  have d150 : w15.cell? ⟨w14.heap.size, 0, none⟩ = some (.float .f64 (f 6)) := bkeep2 hb15 (by simp [go_sem])
  have d151 : w15.cell? ⟨w14.heap.size, 1, none⟩ = some (.float .f64 (f 7)) := bkeep2 hb15 (by simp [go_sem])
  have d152 : w15.cell? ⟨w14.heap.size, 2, none⟩ = some (.float .f64 (f 8)) := bkeep2 hb15 (by simp [go_sem])
  have d153 : w15.cell? ⟨w14.heap.size, 3, none⟩ = some (.float .f64 (f 9)) := bkeep2 hb15 (by simp [go_sem])
  have l0 : w1.heap.size < w15.heap.size := cell_lt d20
  have l1 : w2.heap.size < w15.heap.size := cell_lt d30
  have l2 : w5.heap.size < w15.heap.size := cell_lt d60
  have l3 : w6.heap.size < w15.heap.size := cell_lt d70
  have l4 : w9.heap.size < w15.heap.size := cell_lt d100
  have l5 : w14.heap.size < w15.heap.size := cell_lt d150
  go_wp2_with fail
  go_at_call 10
  refine (td _).mono ?_
  rintro e w16 ⟨rfl, hb16⟩
  have s16 := hb16.size
  try simp at s16
  replace d20 := bkeep2 hb16 d20
  replace d21 := bkeep2 hb16 d21
  replace d30 := bkeep2 hb16 d30
  replace d31 := bkeep2 hb16 d31
  replace d60 := bkeep2 hb16 d60
  replace d61 := bkeep2 hb16 d61
  replace d70 := bkeep2 hb16 d70
  replace d71 := bkeep2 hb16 d71
  replace d100 := bkeep2 hb16 d100
  replace d101 := bkeep2 hb16 d101
  replace d102 := bkeep2 hb16 d102
  replace d103 := bkeep2 hb16 d103
  replace d150 := bkeep2 hb16 d150
  replace d151 := bkeep2 hb16 d151
  replace d152 := bkeep2 hb16 d152
  replace d153 := bkeep2 hb16 d153
  have l0 : w1.heap.size < w16.heap.size := cell_lt d20
  have l1 : w2.heap.size < w16.heap.size := cell_lt d30
  have l2 : w5.heap.size < w16.heap.size := cell_lt d60
  have l3 : w6.heap.size < w16.heap.size := cell_lt d70
  have l4 : w9.heap.size < w16.heap.size := cell_lt d100
  have l5 : w14.heap.size < w16.heap.size := cell_lt d150
  go_wp2_with fail
  go_at_call 21
  refine (ii _).mono ?_
  rintro e w' ⟨rfl, rfl⟩
  go_wp2_with fail
  go_ret
  refine ⟨rfl, ?_⟩
  repeat (with_reducible first | exact Below.refl _ _ | assumption | refine Below.drew ?_ | refine bl_drewN ?_ _ | refine Below.setCell ?_ (by first | omega | (simp; done) | (simp; omega)) _ | refine Below.alloc ?_ (by first | omega | (simp; done) | (simp; omega)) _ | refine bl_next ?_ (by assumption) | refine bl_trans ?_ (by assumption) (by first | omega | (simp; done) | (simp; omega)))

set_option maxRecDepth 100000 in
set_option maxHeartbeats 8000000 in
theorem edges_tto_w (v : Value) (f : Nat → Nat)
    (pa : ∀ w, Calls Try.prog 15 #[.agg #[.complex .f64 (f 0) (f 1), .float .f64 (f 2)]] w fun e w' => e = .returned (.bool true) ∧ Below w.heap.size w w')
    (pb : ∀ w, Calls Try.prog 15 #[.agg #[.complex .f64 (f 3) (f 4), .float .f64 (f 5)]] w fun e w' => e = .returned (.bool true) ∧ Below w.heap.size w w')
    (g1 g2 g3 h1 h2 h3 n4 n5 : Nat)
    (ca : ∀ w, Calls Try.prog 16 #[.agg #[.complex .f64 (f 0) (f 1), .float .f64 (f 2)], .agg #[.complex .f64 (f 3) (f 4), .float .f64 (f 5)]] w fun e w' => e = .returned (.agg #[.complex .f64 g1 g2, .float .f64 g3]) ∧ Below w.heap.size w w')
    (cb : ∀ w, Calls Try.prog 17 #[.agg #[.complex .f64 (f 0) (f 1), .float .f64 (f 2)], .agg #[.complex .f64 (f 3) (f 4), .float .f64 (f 5)]] w fun e w' => e = .returned (.agg #[.complex .f64 h1 h2, .float .f64 h3]) ∧ Below w.heap.size w w')
    (gc : Op.unary .neg (.complex .f64 (f 3) (f 4)) = pure (.complex .f64 n4 n5))
    (fa : ∀ w, Calls Try.prog 18 #[.agg #[.complex .f64 g1 g2, .float .f64 g3], .agg #[.complex .f64 (f 0) (f 1), .float .f64 (f 2)], .agg #[.complex .f64 (f 3) (f 4), .float .f64 (f 5)]] w fun e w' => e = .returned (.bool true) ∧ Below w.heap.size w w')
    (fb : ∀ w, Calls Try.prog 18 #[.agg #[.complex .f64 h1 h2, .float .f64 h3], .agg #[.complex .f64 (f 0) (f 1), .float .f64 (f 2)], .agg #[.complex .f64 n4 n5, .float .f64 (f 5)]] w fun e w' => e = .returned (.bool true) ∧ Below w.heap.size w w')
    (e1 e2 e3 e4 nr : Nat)
    (tb : ∀ w, Calls Try.prog 7 #[.agg #[.complex .f64 (f 0) (f 1), .float .f64 (f 2)]] w fun e w' => e = .returned (.agg #[.float .f64 e1, .float .f64 e2, .float .f64 e3, .float .f64 e4]) ∧ Below w.heap.size w w')
    (gr : Op.unary .neg (.float .f64 (f 2)) = pure (.float .f64 nr))
    (lw1 : ∀ w, Calls Try.prog 19 #[.float .f64 e1, .float .f64 (f 0), .float .f64 nr] w fun e w' => e = .returned (.bool true) ∧ Below w.heap.size w w')
    (lw2 : ∀ w, Calls Try.prog 19 #[.float .f64 e3, .float .f64 (f 1), .float .f64 nr] w fun e w' => e = .returned (.bool true) ∧ Below w.heap.size w w')
    (hg1 : ∀ w, Calls Try.prog 20 #[.float .f64 e2, .float .f64 (f 0), .float .f64 (f 2)] w fun e w' => e = .returned (.bool true) ∧ Below w.heap.size w w')
    (hg2 : ∀ w, Calls Try.prog 20 #[.float .f64 e4, .float .f64 (f 1), .float .f64 (f 2)] w fun e w' => e = .returned (.bool true) ∧ Below w.heap.size w w')
    (t1 t2 t3 : Nat)
    (ba : ∀ w, Calls Try.prog 9 #[.agg #[.float .f64 (f 6), .float .f64 (f 7), .float .f64 (f 8), .float .f64 (f 9)]] w fun e w' => e = .returned (.bool false) ∧ Below w.heap.size w w')
    (td : ∀ w, Calls Try.prog 10 #[.agg #[.float .f64 (f 6), .float .f64 (f 7), .float .f64 (f 8), .float .f64 (f 9)]] w fun e w' => e = .returned (.agg #[.complex .f64 t1 t2, .float .f64 t3]) ∧ Below w.heap.size w w')
    (ii : ∀ w, Calls Try.prog 21 #[.float .f64 t3, .int .i64 1] w fun e w' => e = .returned (.bool false) ∧ w' = w)
    (j0 : ∀ w, Calls Try.prog 22 #[.float .f64 (f 6), .float .f64 (f 8), .agg #[.complex .f64 t1 t2, .float .f64 t3]] w fun e w' => e = .returned (.bool true) ∧ Below w.heap.size w w')
    (j1 : ∀ w, Calls Try.prog 22 #[.float .f64 (f 6), .float .f64 (f 9), .agg #[.complex .f64 t1 t2, .float .f64 t3]] w fun e w' => e = .returned (.bool true) ∧ Below w.heap.size w w')
    (j2 : ∀ w, Calls Try.prog 22 #[.float .f64 (f 7), .float .f64 (f 8), .agg #[.complex .f64 t1 t2, .float .f64 t3]] w fun e w' => e = .returned (.bool true) ∧ Below w.heap.size w w')
    (j3 : ∀ w, Calls Try.prog 22 #[.float .f64 (f 7), .float .f64 (f 9), .agg #[.complex .f64 t1 t2, .float .f64 t3]] w fun e w' => e = .returned (.bool true) ∧ Below w.heap.size w w')
    (w : World) (hl : Lst w v f) :
    Calls Try.prog 4 #[v] w fun e w' => e = .returned (.bool true) ∧ Below w.heap.size w w' := by
  go_enter Try.func4, Try.ntmps4
  go_wp2_with fail
  go_at_call 5
  refine (disc0_w v f _ hl).mono ?_
  rintro e w1 ⟨rfl, hb1⟩
  have s1 := hb1.size
  try simp at s1
  have hl1 := (hl.below hb1).below (bl_alloc (o := .cells #[.complex .f64 (f 0) (f 1), .float .f64 (f 2)] 26) (Below.refl _ _))
  go_wp2_with fail
  go_at_call 5
  refine (disc3_w v f _ hl1).mono ?_
  rintro e w2 ⟨rfl, hb2⟩
  have s2 := hb2.size
  try simp at s2
  have d20 : w2.cell? ⟨w1.heap.size, 0, none⟩ = some (.complex .f64 (f 0) (f 1)) := bkeep2 hb2 (by simp [go_sem])
  have d21 : w2.cell? ⟨w1.heap.size, 1, none⟩ = some (.float .f64 (f 2)) := bkeep2 hb2 (by simp [go_sem])
  have l0 : w1.heap.size < w2.heap.size := cell_lt d20
  replace hl1 := (hl1.below hb2).below (bl_alloc (o := .cells #[.complex .f64 (f 3) (f 4), .float .f64 (f 5)] 26) (Below.refl _ _))
  go_wp2_with fail
  go_at_call 15
  refine (pa _).mono ?_
  rintro e w3 ⟨rfl, hb3⟩
  have s3 := hb3.size
  try simp at s3
  replace d20 := bkeep3 hb3 d20
  replace d21 := bkeep3 hb3 d21
  have d30 : w3.cell? ⟨w2.heap.size, 0, none⟩ = some (.complex .f64 (f 3) (f 4)) := bkeep2 hb3 (by simp [go_sem])
  have d31 : w3.cell? ⟨w2.heap.size, 1, none⟩ = some (.float .f64 (f 5)) := bkeep2 hb3 (by simp [go_sem])
  have l0 : w1.heap.size < w3.heap.size := cell_lt d20
  have l1 : w2.heap.size < w3.heap.size := cell_lt d30
  replace hl1 := hl1.below hb3
  go_wp2_with fail
  go_at_call 15
  refine (pb _).mono ?_
  rintro e w4 ⟨rfl, hb4⟩
  have s4 := hb4.size
  try simp at s4
  replace d20 := bkeep2 hb4 d20
  replace d21 := bkeep2 hb4 d21
  replace d30 := bkeep2 hb4 d30
  replace d31 := bkeep2 hb4 d31
  have l0 : w1.heap.size < w4.heap.size := cell_lt d20
  have l1 : w2.heap.size < w4.heap.size := cell_lt d30
  replace hl1 := hl1.below hb4
  go_wp2_with fail
  go_at_call 16
  refine (ca _).mono ?_
  rintro e w5 ⟨rfl, hb5⟩
  have s5 := hb5.size
  try simp at s5
  replace d20 := bkeep2 hb5 d20
  replace d21 := bkeep2 hb5 d21
  replace d30 := bkeep2 hb5 d30
  replace d31 := bkeep2 hb5 d31
  have l0 : w1.heap.size < w5.heap.size := cell_lt d20
  have l1 : w2.heap.size < w5.heap.size := cell_lt d30
  replace hl1 := (hl1.below hb5).below (bl_alloc (o := .cells #[.complex .f64 g1 g2, .float .f64 g3] 26) (Below.refl _ _))
  go_wp2_with fail
  go_at_call 17
  refine (cb _).mono ?_
  rintro e w6 ⟨rfl, hb6⟩
  have s6 := hb6.size
  try simp at s6
  replace d20 := bkeep3 hb6 d20
  replace d21 := bkeep3 hb6 d21
  replace d30 := bkeep3 hb6 d30
  replace d31 := bkeep3 hb6 d31
  have d60 : w6.cell? ⟨w5.heap.size, 0, none⟩ = some (.complex .f64 g1 g2) := bkeep2 hb6 (by simp [go_sem])
  have d61 : w6.cell? ⟨w5.heap.size, 1, none⟩ = some (.float .f64 g3) := bkeep2 hb6 (by simp [go_sem])
  have l0 : w1.heap.size < w6.heap.size := cell_lt d20
  have l1 : w2.heap.size < w6.heap.size := cell_lt d30
  have l2 : w5.heap.size < w6.heap.size := cell_lt d60
  replace hl1 := (hl1.below hb6).below (bl_alloc (o := .cells #[.complex .f64 h1 h2, .float .f64 h3] 26) (Below.refl _ _))
  go_wp2_with fail
  go_at_call 18
  refine (fa _).mono ?_
  rintro e w7 ⟨rfl, hb7⟩
  have s7 := hb7.size
  try simp at s7
  replace d20 := bkeep3 hb7 d20
  replace d21 := bkeep3 hb7 d21
  replace d30 := bkeep3 hb7 d30
  replace d31 := bkeep3 hb7 d31
  replace d60 := bkeep3 hb7 d60
  replace d61 := bkeep3 hb7 d61
  have d70 : w7.cell? ⟨w6.heap.size, 0, none⟩ = some (.complex .f64 h1 h2) := bkeep2 hb7 (by simp [go_sem])
  have d71 : w7.cell? ⟨w6.heap.size, 1, none⟩ = some (.float .f64 h3) := bkeep2 hb7 (by simp [go_sem])
  have l0 : w1.heap.size < w7.heap.size := cell_lt d20
  have l1 : w2.heap.size < w7.heap.size := cell_lt d30
  have l2 : w5.heap.size < w7.heap.size := cell_lt d60
  have l3 : w6.heap.size < w7.heap.size := cell_lt d70
  replace hl1 := hl1.below hb7
  go_wp2_with fail
  go_at_call 18
  refine (fb _).mono ?_
  rintro e w8 ⟨rfl, hb8⟩
  have s8 := hb8.size
  try simp at s8
  replace d20 := bkeep2 hb8 d20
  replace d21 := bkeep2 hb8 d21
  replace d30 := bkeep2 hb8 d30
  replace d31 := bkeep2 hb8 d31
  replace d60 := bkeep2 hb8 d60
  replace d61 := bkeep2 hb8 d61
  replace d70 := bkeep2 hb8 d70
  replace d71 := bkeep2 hb8 d71
  have l0 : w1.heap.size < w8.heap.size := cell_lt d20
  have l1 : w2.heap.size < w8.heap.size := cell_lt d30
  have l2 : w5.heap.size < w8.heap.size := cell_lt d60
  have l3 : w6.heap.size < w8.heap.size := cell_lt d70
  replace hl1 := hl1.below hb8
  go_wp2_with fail
  go_at_call 7
  refine (tb _).mono ?_
  rintro e w9 ⟨rfl, hb9⟩
  have s9 := hb9.size
  try simp at s9
  replace d20 := bkeep2 hb9 d20
  replace d21 := bkeep2 hb9 d21
  replace d30 := bkeep2 hb9 d30
  replace d31 := bkeep2 hb9 d31
  replace d60 := bkeep2 hb9 d60
  replace d61 := bkeep2 hb9 d61
  replace d70 := bkeep2 hb9 d70
  replace d71 := bkeep2 hb9 d71
  have l0 : w1.heap.size < w9.heap.size := cell_lt d20
  have l1 : w2.heap.size < w9.heap.size := cell_lt d30
  have l2 : w5.heap.size < w9.heap.size := cell_lt d60
  have l3 : w6.heap.size < w9.heap.size := cell_lt d70
  replace hl1 := (hl1.below hb9).below (bl_alloc (o := .cells #[.float .f64 e1, .float .f64 e2, .float .f64 e3, .float .f64 e4] 32) (Below.refl _ _))
  go_wp2_with fail
  go_at_call 19
  refine (lw1 _).mono ?_
  rintro e w10 ⟨rfl, hb10⟩
  have s10 := hb10.size
  try simp at s10
  replace d20 := bkeep3 hb10 d20
  replace d21 := bkeep3 hb10 d21
  replace d30 := bkeep3 hb10 d30
  replace d31 := bkeep3 hb10 d31
  replace d60 := bkeep3 hb10 d60
  replace d61 := bkeep3 hb10 d61
  replace d70 := bkeep3 hb10 d70
  replace d71 := bkeep3 hb10 d71
  have d100 : w10.cell? ⟨w9.heap.size, 0, none⟩ = some (.float .f64 e1) := bkeep2 hb10 (by simp [go_sem])
  have d101 : w10.cell? ⟨w9.heap.size, 1, none⟩ = some (.float .f64 e2) := bkeep2 hb10 (by simp [go_sem])
  have d102 : w10.cell? ⟨w9.heap.size, 2, none⟩ = some (.float .f64 e3) := bkeep2 hb10 (by simp [go_sem])
  have d103 : w10.cell? ⟨w9.heap.size, 3, none⟩ = some (.float .f64 e4) := bkeep2 hb10 (by simp [go_sem])
  have l0 : w1.heap.size < w10.heap.size := cell_lt d20
  have l1 : w2.heap.size < w10.heap.size := cell_lt d30
  have l2 : w5.heap.size < w10.heap.size := cell_lt d60
  have l3 : w6.heap.size < w10.heap.size := cell_lt d70
  have l4 : w9.heap.size < w10.heap.size := cell_lt d100
  replace hl1 := hl1.below hb10
  go_wp2_with fail
  go_at_call 19
  refine (lw2 _).mono ?_
  rintro e w11 ⟨rfl, hb11⟩
  have s11 := hb11.size
  try simp at s11
  replace d20 := bkeep2 hb11 d20
  replace d21 := bkeep2 hb11 d21
  replace d30 := bkeep2 hb11 d30
  replace d31 := bkeep2 hb11 d31
  replace d60 := bkeep2 hb11 d60
  replace d61 := bkeep2 hb11 d61
  replace d70 := bkeep2 hb11 d70
  replace d71 := bkeep2 hb11 d71
  replace d100 := bkeep2 hb11 d100
  replace d101 := bkeep2 hb11 d101
  replace d102 := bkeep2 hb11 d102
  replace d103 := bkeep2 hb11 d103
  have l0 : w1.heap.size < w11.heap.size := cell_lt d20
  have l1 : w2.heap.size < w11.heap.size := cell_lt d30
  have l2 : w5.heap.size < w11.heap.size := cell_lt d60
  have l3 : w6.heap.size < w11.heap.size := cell_lt d70
  have l4 : w9.heap.size < w11.heap.size := cell_lt d100
  replace hl1 := hl1.below hb11
  go_wp2_with fail
  go_at_call 20
  refine (hg1 _).mono ?_
  rintro e w12 ⟨rfl, hb12⟩
  have s12 := hb12.size
  try simp at s12
  replace d20 := bkeep2 hb12 d20
  replace d21 := bkeep2 hb12 d21
  replace d30 := bkeep2 hb12 d30
  replace d31 := bkeep2 hb12 d31
  replace d60 := bkeep2 hb12 d60
  replace d61 := bkeep2 hb12 d61
  replace d70 := bkeep2 hb12 d70
  replace d71 := bkeep2 hb12 d71
  replace d100 := bkeep2 hb12 d100
  replace d101 := bkeep2 hb12 d101
  replace d102 := bkeep2 hb12 d102
  replace d103 := bkeep2 hb12 d103
  have l0 : w1.heap.size < w12.heap.size := cell_lt d20
  have l1 : w2.heap.size < w12.heap.size := cell_lt d30
  have l2 : w5.heap.size < w12.heap.size := cell_lt d60
  have l3 : w6.heap.size < w12.heap.size := cell_lt d70
  have l4 : w9.heap.size < w12.heap.size := cell_lt d100
  replace hl1 := hl1.below hb12
  go_wp2_with fail
  go_at_call 20
  refine (hg2 _).mono ?_
  rintro e w13 ⟨rfl, hb13⟩
  have s13 := hb13.size
  try simp at s13
  replace d20 := bkeep2 hb13 d20
  replace d21 := bkeep2 hb13 d21
  replace d30 := bkeep2 hb13 d30
  replace d31 := bkeep2 hb13 d31
  replace d60 := bkeep2 hb13 d60
  replace d61 := bkeep2 hb13 d61
  replace d70 := bkeep2 hb13 d70
  replace d71 := bkeep2 hb13 d71
  replace d100 := bkeep2 hb13 d100
  replace d101 := bkeep2 hb13 d101
  replace d102 := bkeep2 hb13 d102
  replace d103 := bkeep2 hb13 d103
  have l0 : w1.heap.size < w13.heap.size := cell_lt d20
  have l1 : w2.heap.size < w13.heap.size := cell_lt d30
  have l2 : w5.heap.size < w13.heap.size := cell_lt d60
  have l3 : w6.heap.size < w13.heap.size := cell_lt d70
  have l4 : w9.heap.size < w13.heap.size := cell_lt d100
  replace hl1 := hl1.below hb13
  go_wp2_with fail
  go_at_call 8
  refine (box6_w v f _ hl1).mono ?_
  rintro e w14 ⟨rfl, hb14⟩
  have s14 := hb14.size
  try simp at s14
  replace d20 := bkeep2 hb14 d20
  replace d21 := bkeep2 hb14 d21
  replace d30 := bkeep2 hb14 d30
  replace d31 := bkeep2 hb14 d31
  replace d60 := bkeep2 hb14 d60
  replace d61 := bkeep2 hb14 d61
  replace d70 := bkeep2 hb14 d70
  replace d71 := bkeep2 hb14 d71
  replace d100 := bkeep2 hb14 d100
  replace d101 := bkeep2 hb14 d101
  replace d102 := bkeep2 hb14 d102
  replace d103 := bkeep2 hb14 d103
  have l0 : w1.heap.size < w14.heap.size := cell_lt d20
  have l1 : w2.heap.size < w14.heap.size := cell_lt d30
  have l2 : w5.heap.size < w14.heap.size := cell_lt d60
  have l3 : w6.heap.size < w14.heap.size := cell_lt d70
  have l4 : w9.heap.size < w14.heap.size := cell_lt d100
  go_wp2_with fail
  clear hl1 hl
  go_at_call 9
  refine (ba _).mono ?_
  rintro e w15 ⟨rfl, hb15⟩
  have s15 := hb15.size
  try simp at s15
  replace d20 := bkeep3 hb15 d20
  replace d21 := bkeep3 hb15 d21
  replace d30 := bkeep3 hb15 d30
  replace d31 := bkeep3 hb15 d31
  replace d60 := bkeep3 hb15 d60
  replace d61 := bkeep3 hb15 d61
  replace d70 := bkeep3 hb15 d70
  replace d71 := bkeep3 hb15 d71
  replace d100 := bkeep3 hb15 d100
  replace d101 := bkeep3 hb15 d101
  replace d102 := bkeep3 hb15 d102
  replace d103 := bkeep3 hb15 d103
  have d150 : w15.cell? ⟨w14.heap.size, 0, none⟩ = some (.float .f64 (f 6)) := bkeep2 hb15 (by simp [go_sem])
  have d151 : w15.cell? ⟨w14.heap.size, 1, none⟩ = some (.float .f64 (f 7)) := bkeep2 hb15 (by simp [go_sem])
  have d152 : w15.cell? ⟨w14.heap.size, 2, none⟩ = some (.float .f64 (f 8)) := bkeep2 hb15 (by simp [go_sem])
  have d153 : w15.cell? ⟨w14.heap.size, 3, none⟩ = some (.float .f64 (f 9)) := bkeep2 hb15 (by simp [go_sem])
  have l0 : w1.heap.size < w15.heap.size := cell_lt d20
  have l1 : w2.heap.size < w15.heap.size := cell_lt d30
  have l2 : w5.heap.size < w15.heap.size := cell_lt d60
  have l3 : w6.heap.size < w15.heap.size := cell_lt d70
  have l4 : w9.heap.size < w15.heap.size := cell_lt d100
  have l5 : w14.heap.size < w15.heap.size := cell_lt d150
  go_wp2_with fail
  go_at_call 10
  refine (td _).mono ?_
  rintro e w16 ⟨rfl, hb16⟩
  have s16 := hb16.size
  try simp at s16
  replace d20 := bkeep2 hb16 d20
  replace d21 := bkeep2 hb16 d21
  replace d30 := bkeep2 hb16 d30
  replace d31 := bkeep2 hb16 d31
  replace d60 := bkeep2 hb16 d60
  replace d61 := bkeep2 hb16 d61
  replace d70 := bkeep2 hb16 d70
  replace d71 := bkeep2 hb16 d71
  replace d100 := bkeep2 hb16 d100
  replace d101 := bkeep2 hb16 d101
  replace d102 := bkeep2 hb16 d102
  replace d103 := bkeep2 hb16 d103
  replace d150 := bkeep2 hb16 d150
  replace d151 := bkeep2 hb16 d151
  replace d152 := bkeep2 hb16 d152
  replace d153 := bkeep2 hb16 d153
  have l0 : w1.heap.size < w16.heap.size := cell_lt d20
  have l1 : w2.heap.size < w16.heap.size := cell_lt d30
  have l2 : w5.heap.size < w16.heap.size := cell_lt d60
  have l3 : w6.heap.size < w16.heap.size := cell_lt d70
  have l4 : w9.heap.size < w16.heap.size := cell_lt d100
  have l5 : w14.heap.size < w16.heap.size := cell_lt d150
  go_wp2_with fail
  go_at_call 21
  refine (ii _).mono ?_
  rintro e w' ⟨rfl, rfl⟩
  go_wp2_with fail
  go_at_call 22
  refine (j0 _).mono ?_
  rintro e w17 ⟨rfl, hb17⟩
  have s17 := hb17.size
  try simp at s17
  replace d20 := bkeep3 hb17 d20
  replace d21 := bkeep3 hb17 d21
  replace d30 := bkeep3 hb17 d30
  replace d31 := bkeep3 hb17 d31
  replace d60 := bkeep3 hb17 d60
  replace d61 := bkeep3 hb17 d61
  replace d70 := bkeep3 hb17 d70
  replace d71 := bkeep3 hb17 d71
  replace d100 := bkeep3 hb17 d100
  replace d101 := bkeep3 hb17 d101
  replace d102 := bkeep3 hb17 d102
  replace d103 := bkeep3 hb17 d103
  replace d150 := bkeep3 hb17 d150
  replace d151 := bkeep3 hb17 d151
  replace d152 := bkeep3 hb17 d152
  replace d153 := bkeep3 hb17 d153
  have d170 : w17.cell? ⟨w16.heap.size, 0, none⟩ = some (.complex .f64 t1 t2) := bkeep2 hb17 (by simp [go_sem])
  have d171 : w17.cell? ⟨w16.heap.size, 1, none⟩ = some (.float .f64 t3) := bkeep2 hb17 (by simp [go_sem])
  have l0 : w1.heap.size < w17.heap.size := cell_lt d20
  have l1 : w2.heap.size < w17.heap.size := cell_lt d30
  have l2 : w5.heap.size < w17.heap.size := cell_lt d60
  have l3 : w6.heap.size < w17.heap.size := cell_lt d70
  have l4 : w9.heap.size < w17.heap.size := cell_lt d100
  have l5 : w14.heap.size < w17.heap.size := cell_lt d150
  have l6 : w16.heap.size < w17.heap.size := cell_lt d170
  go_wp2_with fail
  go_at_call 22
  refine (j1 _).mono ?_
  rintro e w18 ⟨rfl, hb18⟩
  have s18 := hb18.size
  try simp at s18
  replace d20 := bkeep2 hb18 d20
  replace d21 := bkeep2 hb18 d21
  replace d30 := bkeep2 hb18 d30
  replace d31 := bkeep2 hb18 d31
  replace d60 := bkeep2 hb18 d60
  replace d61 := bkeep2 hb18 d61
  replace d70 := bkeep2 hb18 d70
  replace d71 := bkeep2 hb18 d71
  replace d100 := bkeep2 hb18 d100
  replace d101 := bkeep2 hb18 d101
  replace d102 := bkeep2 hb18 d102
  replace d103 := bkeep2 hb18 d103
  replace d150 := bkeep2 hb18 d150
  replace d151 := bkeep2 hb18 d151
  replace d152 := bkeep2 hb18 d152
  replace d153 := bkeep2 hb18 d153
  replace d170 := bkeep2 hb18 d170
  replace d171 := bkeep2 hb18 d171
  have l0 : w1.heap.size < w18.heap.size := cell_lt d20
  have l1 : w2.heap.size < w18.heap.size := cell_lt d30
  have l2 : w5.heap.size < w18.heap.size := cell_lt d60
  have l3 : w6.heap.size < w18.heap.size := cell_lt d70
  have l4 : w9.heap.size < w18.heap.size := cell_lt d100
  have l5 : w14.heap.size < w18.heap.size := cell_lt d150
  have l6 : w16.heap.size < w18.heap.size := cell_lt d170
  go_wp2_with fail
  go_at_call 22
  refine (j2 _).mono ?_
  rintro e w19 ⟨rfl, hb19⟩
  have s19 := hb19.size
  try simp at s19
  replace d20 := bkeep2 hb19 d20
  replace d21 := bkeep2 hb19 d21
  replace d30 := bkeep2 hb19 d30
  replace d31 := bkeep2 hb19 d31
  replace d60 := bkeep2 hb19 d60
  replace d61 := bkeep2 hb19 d61
  replace d70 := bkeep2 hb19 d70
  replace d71 := bkeep2 hb19 d71
  replace d100 := bkeep2 hb19 d100
  replace d101 := bkeep2 hb19 d101
  replace d102 := bkeep2 hb19 d102
  replace d103 := bkeep2 hb19 d103
  replace d150 := bkeep2 hb19 d150
  replace d151 := bkeep2 hb19 d151
  replace d152 := bkeep2 hb19 d152
  replace d153 := bkeep2 hb19 d153
  replace d170 := bkeep2 hb19 d170
  replace d171 := bkeep2 hb19 d171
  have l0 : w1.heap.size < w19.heap.size := cell_lt d20
  have l1 : w2.heap.size < w19.heap.size := cell_lt d30
  have l2 : w5.heap.size < w19.heap.size := cell_lt d60
  have l3 : w6.heap.size < w19.heap.size := cell_lt d70
  have l4 : w9.heap.size < w19.heap.size := cell_lt d100
  have l5 : w14.heap.size < w19.heap.size := cell_lt d150
  have l6 : w16.heap.size < w19.heap.size := cell_lt d170
  go_wp2_with fail
  go_at_call 22
  refine (j3 _).mono ?_
  rintro e w20 ⟨rfl, hb20⟩
  have s20 := hb20.size
  try simp at s20
  replace d20 := bkeep2 hb20 d20
  replace d21 := bkeep2 hb20 d21
  replace d30 := bkeep2 hb20 d30
  replace d31 := bkeep2 hb20 d31
  replace d60 := bkeep2 hb20 d60
  replace d61 := bkeep2 hb20 d61
  replace d70 := bkeep2 hb20 d70
  replace d71 := bkeep2 hb20 d71
  replace d100 := bkeep2 hb20 d100
  replace d101 := bkeep2 hb20 d101
  replace d102 := bkeep2 hb20 d102
  replace d103 := bkeep2 hb20 d103
  replace d150 := bkeep2 hb20 d150
  replace d151 := bkeep2 hb20 d151
  replace d152 := bkeep2 hb20 d152
  replace d153 := bkeep2 hb20 d153
  replace d170 := bkeep2 hb20 d170
  replace d171 := bkeep2 hb20 d171
  have l0 : w1.heap.size < w20.heap.size := cell_lt d20
  have l1 : w2.heap.size < w20.heap.size := cell_lt d30
  have l2 : w5.heap.size < w20.heap.size := cell_lt d60
  have l3 : w6.heap.size < w20.heap.size := cell_lt d70
  have l4 : w9.heap.size < w20.heap.size := cell_lt d100
  have l5 : w14.heap.size < w20.heap.size := cell_lt d150
  have l6 : w16.heap.size < w20.heap.size := cell_lt d170
  go_wp2_with fail
  go_ret
  refine ⟨rfl, ?_⟩
  repeat (with_reducible first | exact Below.refl _ _ | assumption | refine Below.drew ?_ | refine bl_drewN ?_ _ | refine Below.setCell ?_ (by first | omega | (simp; done) | (simp; omega)) _ | refine Below.alloc ?_ (by first | omega | (simp; done) | (simp; omega)) _ | refine bl_next ?_ (by assumption) | refine bl_trans ?_ (by assumption) (by first | omega | (simp; done) | (simp; omega)))

end Go.Proofs.Ytacnclofbnafiab
