import Derived.Test.YtacnclofbnafiaaZ9
import Derived.Test.YtacnclofbnafiaaT1
import Derived.Laws.ComplexArith
namespace Go.Proofs.Ytacnclofbnafiaa
open Go.RowKit Fl

set_option maxHeartbeats 1000000 in
theorem close_w (a b r c d p m x y h : Nat)
    (b1 : ∀ w, Calls Try.prog 81 #[.float .f64 r, .float .f64 p, .float .f64 m] w fun e w' => e = .returned (.bool true) ∧ Below w.heap.size w w')
    (hs : cSumBits .sub .f64 a b c d = some (x, y))
    (si : ∀ w, Calls Try.prog 74 #[.complex .f64 x y] w fun e w' => e = .returned (.float .f64 h) ∧ Below w.heap.size w w')
    (b2 : ∀ w, Calls Try.prog 81 #[.float .f64 h, .float .f64 0, .float .f64 m] w fun e w' => e = .returned (.bool true) ∧ Below w.heap.size w w') (w : World) :
    Calls Try.prog 75 #[.agg #[.complex .f64 a b, .float .f64 r], .complex .f64 c d, .float .f64 p, .float .f64 m] w fun e w' => e = .returned (.bool true) ∧ Below w.heap.size w w' := by
  have s1 := fun t' w => run_complex_sum (P := Try.prog) w .sub (.inr rfl) t' .f64 _ _ _ _ _ _ hs
  clear hs
  go_enter Try.func75, Try.ntmps75
  go_wp2_with fail
  obtain ⟨w0, hw0⟩ : ∃ v, v = (w.alloc (.cells #[.complex .f64 a b, .float .f64 r] 55)) := ⟨_, rfl⟩
  rw [← hw0]
  have c00 : w0.cell? ⟨w.heap.size, 0, none⟩ = some (.complex .f64 a b) := by simp [hw0, go_sem]
  have c01 : w0.cell? ⟨w.heap.size, 1, none⟩ = some (.float .f64 r) := by simp [hw0, go_sem]
  have s0 : w.heap.size + 1 ≤ w0.heap.size := by simp [hw0]
  have hB0 : Below w.heap.size w w0 := by
    rw [hw0]
    repeat (with_reducible first | exact Below.refl _ _ | assumption | refine Below.drew ?_ | refine bl_drewN ?_ _ | refine Below.setCell ?_ (by first | omega | (simp; done) | (simp; omega)) _ | refine Below.alloc ?_ (by first | omega | (simp; done) | (simp; omega)) _ | refine bl_next ?_ (by assumption) | refine bl_trans ?_ (by assumption) (by first | omega | (simp; done) | (simp; omega)))
  clear hw0
  go_at_call 81
  refine (b1 _).mono ?_
  rintro e w1 ⟨rfl, hb1⟩
  have s1 := hb1.size
  try simp at s1
  replace c00 := bkeep2 hb1 c00
  replace c01 := bkeep2 hb1 c01
  have l0 : w.heap.size < w1.heap.size := cell_lt c00
  go_wp2_with fail
  go_at_call 74
  refine (si _).mono ?_
  rintro e w2 ⟨rfl, hb2⟩
  have s2 := hb2.size
  try simp at s2
  replace c00 := bkeep2 hb2 c00
  replace c01 := bkeep2 hb2 c01
  have l0 : w.heap.size < w2.heap.size := cell_lt c00
  go_wp2_with fail
  go_at_call 81
  refine (b2 _).mono ?_
  rintro e w3 ⟨rfl, hb3⟩
  have s3 := hb3.size
  try simp at s3
  replace c00 := bkeep2 hb3 c00
  replace c01 := bkeep2 hb3 c01
  have l0 : w.heap.size < w3.heap.size := cell_lt c00
  go_wp2_with fail
  go_ret
  refine ⟨rfl, ?_⟩
  repeat (with_reducible first | exact Below.refl _ _ | assumption | refine Below.drew ?_ | refine bl_drewN ?_ _ | refine Below.setCell ?_ (by first | omega | (simp; done) | (simp; omega)) _ | refine Below.alloc ?_ (by first | omega | (simp; done) | (simp; omega)) _ | refine bl_next ?_ (by assumption) | refine bl_trans ?_ (by assumption) (by first | omega | (simp; done) | (simp; omega)))

set_option maxHeartbeats 4000000 in
theorem tight_l1_w (v : Value) (f : Nat → Nat) (g1 g2 g3 h1 h2 h3 k1 k2 k3 : Nat)
    (cs : ∀ w, Calls Try.prog 67 #[.agg #[.complex .f64 (f 0) (f 1), .float .f64 (f 2)], .agg #[.complex .f64 (f 3) (f 4), .float .f64 (f 5)]] w fun e w' => e = .returned (.agg #[.complex .f64 g1 g2, .float .f64 g3]) ∧ Below w.heap.size w w')
    (cd : ∀ w, Calls Try.prog 68 #[.agg #[.complex .f64 (f 0) (f 1), .float .f64 (f 2)], .agg #[.complex .f64 (f 3) (f 4), .float .f64 (f 5)]] w fun e w' => e = .returned (.agg #[.complex .f64 h1 h2, .float .f64 h3]) ∧ Below w.heap.size w w')
    (cm : ∀ w, Calls Try.prog 69 #[.agg #[.complex .f64 (f 0) (f 1), .float .f64 (f 2)], .agg #[.complex .f64 (f 3) (f 4), .float .f64 (f 5)]] w fun e w' => e = .returned (.agg #[.complex .f64 k1 k2, .float .f64 k3]) ∧ Below w.heap.size w w')
    (fs : ∀ w, Calls Try.prog 70 #[.agg #[.complex .f64 g1 g2, .float .f64 g3]] w fun e w' => e = .returned (.bool true) ∧ Below w.heap.size w w')
    (fd : ∀ w, Calls Try.prog 70 #[.agg #[.complex .f64 h1 h2, .float .f64 h3]] w fun e w' => e = .returned (.bool true) ∧ Below w.heap.size w w')
    (fm : ∀ w, Calls Try.prog 70 #[.agg #[.complex .f64 k1 k2, .float .f64 k3]] w fun e w' => e = .returned (.bool true) ∧ Below w.heap.size w w')
    (bb : Bool)
    (lo1 : ∀ w, Calls Try.prog 72 #[.agg #[.complex .f64 (f 0) (f 1), .float .f64 (f 2)]] w fun e w' => e = .returned (.bool true) ∧ Below w.heap.size w w')
    (lo2 : ∀ w, Calls Try.prog 72 #[.agg #[.complex .f64 (f 3) (f 4), .float .f64 (f 5)]] w fun e w' => e = .returned (.bool bb) ∧ Below w.heap.size w w')
    (o0 : (Ieee.double.order g3 13830554455654793216 == some .eq) = true)
    (o1 : (Ieee.double.order h3 13830554455654793216 == some .eq) = true)
    (o2 : (Ieee.double.order k3 13830554455654793216 == some .eq) = true)
    (w : World) (hl : Lst w v f) :
    Calls Try.prog 13 #[v] w fun e w' => e = .returned (.bool true) ∧ Below w.heap.size w w' := by
  go_enter Try.func13, Try.ntmps13
  go_wp2_with fail
  go_at_call 71
  refine (disc0_w v f _ hl).mono ?_
  rintro e w1 ⟨rfl, hb1⟩
  have s1 := hb1.size
  try simp at s1
  go_wp2_with fail
  go_at_call 71
  refine (disc3_w v f _ ((hl.below hb1).below (bl_alloc (Below.refl _ _)))).mono ?_
  rintro e w2 ⟨rfl, hb2⟩
  have s2 := hb2.size
  try simp at s2
  have d20 : w2.cell? ⟨w1.heap.size, 0, none⟩ = some (.complex .f64 (f 0) (f 1)) := bkeep2 hb2 (by simp [go_sem])
  have d21 : w2.cell? ⟨w1.heap.size, 1, none⟩ = some (.float .f64 (f 2)) := bkeep2 hb2 (by simp [go_sem])
  have l0 : w1.heap.size < w2.heap.size := cell_lt d20
  go_wp2_with fail
  go_at_call 67
  refine (cs _).mono ?_
  rintro e w3 ⟨rfl, hb3⟩
  have s3 := hb3.size
  try simp at s3
  replace d20 := bkeep3 hb3 d20
  replace d21 := bkeep3 hb3 d21
  have d30 : w3.cell? ⟨w2.heap.size, 0, none⟩ = some (.complex .f64 (f 3) (f 4)) := bkeep2 hb3 (by simp [go_sem])
  have d31 : w3.cell? ⟨w2.heap.size, 1, none⟩ = some (.float .f64 (f 5)) := bkeep2 hb3 (by simp [go_sem])
  have l0 : w1.heap.size < w3.heap.size := cell_lt d20
  have l1 : w2.heap.size < w3.heap.size := cell_lt d30
  go_wp2_with fail
  go_at_call 68
  refine (cd _).mono ?_
  rintro e w4 ⟨rfl, hb4⟩
  have s4 := hb4.size
  try simp at s4
  replace d20 := bkeep3 hb4 d20
  replace d21 := bkeep3 hb4 d21
  replace d30 := bkeep3 hb4 d30
  replace d31 := bkeep3 hb4 d31
  have d40 : w4.cell? ⟨w3.heap.size, 0, none⟩ = some (.complex .f64 g1 g2) := bkeep2 hb4 (by simp [go_sem])
  have d41 : w4.cell? ⟨w3.heap.size, 1, none⟩ = some (.float .f64 g3) := bkeep2 hb4 (by simp [go_sem])
  have l0 : w1.heap.size < w4.heap.size := cell_lt d20
  have l1 : w2.heap.size < w4.heap.size := cell_lt d30
  have l2 : w3.heap.size < w4.heap.size := cell_lt d40
  go_wp2_with fail
  go_at_call 69
  refine (cm _).mono ?_
  rintro e w5 ⟨rfl, hb5⟩
  have s5 := hb5.size
  try simp at s5
  replace d20 := bkeep3 hb5 d20
  replace d21 := bkeep3 hb5 d21
  replace d30 := bkeep3 hb5 d30
  replace d31 := bkeep3 hb5 d31
  replace d40 := bkeep3 hb5 d40
  replace d41 := bkeep3 hb5 d41
  have d50 : w5.cell? ⟨w4.heap.size, 0, none⟩ = some (.complex .f64 h1 h2) := bkeep2 hb5 (by simp [go_sem])
  have d51 : w5.cell? ⟨w4.heap.size, 1, none⟩ = some (.float .f64 h3) := bkeep2 hb5 (by simp [go_sem])
  have l0 : w1.heap.size < w5.heap.size := cell_lt d20
  have l1 : w2.heap.size < w5.heap.size := cell_lt d30
  have l2 : w3.heap.size < w5.heap.size := cell_lt d40
  have l3 : w4.heap.size < w5.heap.size := cell_lt d50
  go_wp2_with fail
  go_at_call 70
  refine (fs _).mono ?_
  rintro e w6 ⟨rfl, hb6⟩
  have s6 := hb6.size
  try simp at s6
  replace d20 := bkeep3 hb6 d20
  replace d21 := bkeep3 hb6 d21
  replace d30 := bkeep3 hb6 d30
  replace d31 := bkeep3 hb6 d31
  replace d40 := bkeep3 hb6 d40
  replace d41 := bkeep3 hb6 d41
  replace d50 := bkeep3 hb6 d50
  replace d51 := bkeep3 hb6 d51
  have d60 : w6.cell? ⟨w5.heap.size, 0, none⟩ = some (.complex .f64 k1 k2) := bkeep2 hb6 (by simp [go_sem])
  have d61 : w6.cell? ⟨w5.heap.size, 1, none⟩ = some (.float .f64 k3) := bkeep2 hb6 (by simp [go_sem])
  have l0 : w1.heap.size < w6.heap.size := cell_lt d20
  have l1 : w2.heap.size < w6.heap.size := cell_lt d30
  have l2 : w3.heap.size < w6.heap.size := cell_lt d40
  have l3 : w4.heap.size < w6.heap.size := cell_lt d50
  have l4 : w5.heap.size < w6.heap.size := cell_lt d60
  go_wp2_with fail
  go_at_call 70
  refine (fd _).mono ?_
  rintro e w7 ⟨rfl, hb7⟩
  have s7 := hb7.size
  try simp at s7
  replace d20 := bkeep2 hb7 d20
  replace d21 := bkeep2 hb7 d21
  replace d30 := bkeep2 hb7 d30
  replace d31 := bkeep2 hb7 d31
  replace d40 := bkeep2 hb7 d40
  replace d41 := bkeep2 hb7 d41
  replace d50 := bkeep2 hb7 d50
  replace d51 := bkeep2 hb7 d51
  replace d60 := bkeep2 hb7 d60
  replace d61 := bkeep2 hb7 d61
  have l0 : w1.heap.size < w7.heap.size := cell_lt d20
  have l1 : w2.heap.size < w7.heap.size := cell_lt d30
  have l2 : w3.heap.size < w7.heap.size := cell_lt d40
  have l3 : w4.heap.size < w7.heap.size := cell_lt d50
  have l4 : w5.heap.size < w7.heap.size := cell_lt d60
  go_wp2_with fail
  go_at_call 70
  refine (fm _).mono ?_
  rintro e w8 ⟨rfl, hb8⟩
  have s8 := hb8.size
  try simp at s8
  replace d20 := bkeep2 hb8 d20
  replace d21 := bkeep2 hb8 d21
  replace d30 := bkeep2 hb8 d30
  replace d31 := bkeep2 hb8 d31
  replace d40 := bkeep2 hb8 d40
  replace d41 := bkeep2 hb8 d41
  replace d50 := bkeep2 hb8 d50
  replace d51 := bkeep2 hb8 d51
  replace d60 := bkeep2 hb8 d60
  replace d61 := bkeep2 hb8 d61
  have l0 : w1.heap.size < w8.heap.size := cell_lt d20
  have l1 : w2.heap.size < w8.heap.size := cell_lt d30
  have l2 : w3.heap.size < w8.heap.size := cell_lt d40
  have l3 : w4.heap.size < w8.heap.size := cell_lt d50
  have l4 : w5.heap.size < w8.heap.size := cell_lt d60
  go_wp2_with fail
  go_at_call 72
  refine (lo1 _).mono ?_
  rintro e w9 ⟨rfl, hb9⟩
  have s9 := hb9.size
  try simp at s9
  replace d20 := bkeep2 hb9 d20
  replace d21 := bkeep2 hb9 d21
  replace d30 := bkeep2 hb9 d30
  replace d31 := bkeep2 hb9 d31
  replace d40 := bkeep2 hb9 d40
  replace d41 := bkeep2 hb9 d41
  replace d50 := bkeep2 hb9 d50
  replace d51 := bkeep2 hb9 d51
  replace d60 := bkeep2 hb9 d60
  replace d61 := bkeep2 hb9 d61
  have l0 : w1.heap.size < w9.heap.size := cell_lt d20
  have l1 : w2.heap.size < w9.heap.size := cell_lt d30
  have l2 : w3.heap.size < w9.heap.size := cell_lt d40
  have l3 : w4.heap.size < w9.heap.size := cell_lt d50
  have l4 : w5.heap.size < w9.heap.size := cell_lt d60
  go_wp2_with fail
  go_at_call 72
  refine (lo2 _).mono ?_
  rintro e w10 ⟨rfl, hb10⟩
  have s10 := hb10.size
  try simp at s10
  replace d20 := bkeep2 hb10 d20
  replace d21 := bkeep2 hb10 d21
  replace d30 := bkeep2 hb10 d30
  replace d31 := bkeep2 hb10 d31
  replace d40 := bkeep2 hb10 d40
  replace d41 := bkeep2 hb10 d41
  replace d50 := bkeep2 hb10 d50
  replace d51 := bkeep2 hb10 d51
  replace d60 := bkeep2 hb10 d60
  replace d61 := bkeep2 hb10 d61
  have l0 : w1.heap.size < w10.heap.size := cell_lt d20
  have l1 : w2.heap.size < w10.heap.size := cell_lt d30
  have l2 : w3.heap.size < w10.heap.size := cell_lt d40
  have l3 : w4.heap.size < w10.heap.size := cell_lt d50
  have l4 : w5.heap.size < w10.heap.size := cell_lt d60
  go_wp2_with fail
  go_ret
  refine ⟨rfl, ?_⟩
  repeat (with_reducible first | exact Below.refl _ _ | assumption | refine Below.drew ?_ | refine bl_drewN ?_ _ | refine Below.setCell ?_ (by first | omega | (simp; done) | (simp; omega)) _ | refine Below.alloc ?_ (by first | omega | (simp; done) | (simp; omega)) _ | refine bl_next ?_ (by assumption) | refine bl_trans ?_ (by assumption) (by first | omega | (simp; done) | (simp; omega)))

set_option maxHeartbeats 4000000 in
theorem tight_l2_w (v : Value) (f : Nat → Nat) (g1 g2 g3 h1 h2 h3 k1 k2 k3 : Nat)
    (cs : ∀ w, Calls Try.prog 67 #[.agg #[.complex .f64 (f 0) (f 1), .float .f64 (f 2)], .agg #[.complex .f64 (f 3) (f 4), .float .f64 (f 5)]] w fun e w' => e = .returned (.agg #[.complex .f64 g1 g2, .float .f64 g3]) ∧ Below w.heap.size w w')
    (cd : ∀ w, Calls Try.prog 68 #[.agg #[.complex .f64 (f 0) (f 1), .float .f64 (f 2)], .agg #[.complex .f64 (f 3) (f 4), .float .f64 (f 5)]] w fun e w' => e = .returned (.agg #[.complex .f64 h1 h2, .float .f64 h3]) ∧ Below w.heap.size w w')
    (cm : ∀ w, Calls Try.prog 69 #[.agg #[.complex .f64 (f 0) (f 1), .float .f64 (f 2)], .agg #[.complex .f64 (f 3) (f 4), .float .f64 (f 5)]] w fun e w' => e = .returned (.agg #[.complex .f64 k1 k2, .float .f64 k3]) ∧ Below w.heap.size w w')
    (fs : ∀ w, Calls Try.prog 70 #[.agg #[.complex .f64 g1 g2, .float .f64 g3]] w fun e w' => e = .returned (.bool true) ∧ Below w.heap.size w w')
    (fd : ∀ w, Calls Try.prog 70 #[.agg #[.complex .f64 h1 h2, .float .f64 h3]] w fun e w' => e = .returned (.bool true) ∧ Below w.heap.size w w')
    (fm : ∀ w, Calls Try.prog 70 #[.agg #[.complex .f64 k1 k2, .float .f64 k3]] w fun e w' => e = .returned (.bool true) ∧ Below w.heap.size w w')
    (lo1 : ∀ w, Calls Try.prog 72 #[.agg #[.complex .f64 (f 0) (f 1), .float .f64 (f 2)]] w fun e w' => e = .returned (.bool false) ∧ Below w.heap.size w w')
    (lo2 : ∀ w, Calls Try.prog 72 #[.agg #[.complex .f64 (f 3) (f 4), .float .f64 (f 5)]] w fun e w' => e = .returned (.bool true) ∧ Below w.heap.size w w')
    (o0 : (Ieee.double.order g3 13830554455654793216 == some .eq) = true)
    (o1 : (Ieee.double.order h3 13830554455654793216 == some .eq) = true)
    (o2 : (Ieee.double.order k3 13830554455654793216 == some .eq) = true)
    (w : World) (hl : Lst w v f) :
    Calls Try.prog 13 #[v] w fun e w' => e = .returned (.bool true) ∧ Below w.heap.size w w' := by
  go_enter Try.func13, Try.ntmps13
  go_wp2_with fail
  go_at_call 71
  refine (disc0_w v f _ hl).mono ?_
  rintro e w1 ⟨rfl, hb1⟩
  have s1 := hb1.size
  try simp at s1
  go_wp2_with fail
  go_at_call 71
  refine (disc3_w v f _ ((hl.below hb1).below (bl_alloc (Below.refl _ _)))).mono ?_
  rintro e w2 ⟨rfl, hb2⟩
  have s2 := hb2.size
  try simp at s2
  have d20 : w2.cell? ⟨w1.heap.size, 0, none⟩ = some (.complex .f64 (f 0) (f 1)) := bkeep2 hb2 (by simp [go_sem])
  have d21 : w2.cell? ⟨w1.heap.size, 1, none⟩ = some (.float .f64 (f 2)) := bkeep2 hb2 (by simp [go_sem])
  have l0 : w1.heap.size < w2.heap.size := cell_lt d20
  go_wp2_with fail
  go_at_call 67
  refine (cs _).mono ?_
  rintro e w3 ⟨rfl, hb3⟩
  have s3 := hb3.size
  try simp at s3
  replace d20 := bkeep3 hb3 d20
  replace d21 := bkeep3 hb3 d21
  have d30 : w3.cell? ⟨w2.heap.size, 0, none⟩ = some (.complex .f64 (f 3) (f 4)) := bkeep2 hb3 (by simp [go_sem])
  have d31 : w3.cell? ⟨w2.heap.size, 1, none⟩ = some (.float .f64 (f 5)) := bkeep2 hb3 (by simp [go_sem])
  have l0 : w1.heap.size < w3.heap.size := cell_lt d20
  have l1 : w2.heap.size < w3.heap.size := cell_lt d30
  go_wp2_with fail
  go_at_call 68
  refine (cd _).mono ?_
  rintro e w4 ⟨rfl, hb4⟩
  have s4 := hb4.size
  try simp at s4
  replace d20 := bkeep3 hb4 d20
  replace d21 := bkeep3 hb4 d21
  replace d30 := bkeep3 hb4 d30
  replace d31 := bkeep3 hb4 d31
  have d40 : w4.cell? ⟨w3.heap.size, 0, none⟩ = some (.complex .f64 g1 g2) := bkeep2 hb4 (by simp [go_sem])
  have d41 : w4.cell? ⟨w3.heap.size, 1, none⟩ = some (.float .f64 g3) := bkeep2 hb4 (by simp [go_sem])
  have l0 : w1.heap.size < w4.heap.size := cell_lt d20
  have l1 : w2.heap.size < w4.heap.size := cell_lt d30
  have l2 : w3.heap.size < w4.heap.size := cell_lt d40
  go_wp2_with fail
  go_at_call 69
  refine (cm _).mono ?_
  rintro e w5 ⟨rfl, hb5⟩
  have s5 := hb5.size
  try simp at s5
  replace d20 := bkeep3 hb5 d20
  replace d21 := bkeep3 hb5 d21
  replace d30 := bkeep3 hb5 d30
  replace d31 := bkeep3 hb5 d31
  replace d40 := bkeep3 hb5 d40
  replace d41 := bkeep3 hb5 d41
  have d50 : w5.cell? ⟨w4.heap.size, 0, none⟩ = some (.complex .f64 h1 h2) := bkeep2 hb5 (by simp [go_sem])
  have d51 : w5.cell? ⟨w4.heap.size, 1, none⟩ = some (.float .f64 h3) := bkeep2 hb5 (by simp [go_sem])
  have l0 : w1.heap.size < w5.heap.size := cell_lt d20
  have l1 : w2.heap.size < w5.heap.size := cell_lt d30
  have l2 : w3.heap.size < w5.heap.size := cell_lt d40
  have l3 : w4.heap.size < w5.heap.size := cell_lt d50
  go_wp2_with fail
  go_at_call 70
  refine (fs _).mono ?_
  rintro e w6 ⟨rfl, hb6⟩
  have s6 := hb6.size
  try simp at s6
  replace d20 := bkeep3 hb6 d20
  replace d21 := bkeep3 hb6 d21
  replace d30 := bkeep3 hb6 d30
  replace d31 := bkeep3 hb6 d31
  replace d40 := bkeep3 hb6 d40
  replace d41 := bkeep3 hb6 d41
  replace d50 := bkeep3 hb6 d50
  replace d51 := bkeep3 hb6 d51
  have d60 : w6.cell? ⟨w5.heap.size, 0, none⟩ = some (.complex .f64 k1 k2) := bkeep2 hb6 (by simp [go_sem])
  have d61 : w6.cell? ⟨w5.heap.size, 1, none⟩ = some (.float .f64 k3) := bkeep2 hb6 (by simp [go_sem])
  have l0 : w1.heap.size < w6.heap.size := cell_lt d20
  have l1 : w2.heap.size < w6.heap.size := cell_lt d30
  have l2 : w3.heap.size < w6.heap.size := cell_lt d40
  have l3 : w4.heap.size < w6.heap.size := cell_lt d50
  have l4 : w5.heap.size < w6.heap.size := cell_lt d60
  go_wp2_with fail
  go_at_call 70
  refine (fd _).mono ?_
  rintro e w7 ⟨rfl, hb7⟩
  have s7 := hb7.size
  try simp at s7
  replace d20 := bkeep2 hb7 d20
  replace d21 := bkeep2 hb7 d21
  replace d30 := bkeep2 hb7 d30
  replace d31 := bkeep2 hb7 d31
  replace d40 := bkeep2 hb7 d40
  replace d41 := bkeep2 hb7 d41
  replace d50 := bkeep2 hb7 d50
  replace d51 := bkeep2 hb7 d51
  replace d60 := bkeep2 hb7 d60
  replace d61 := bkeep2 hb7 d61
  have l0 : w1.heap.size < w7.heap.size := cell_lt d20
  have l1 : w2.heap.size < w7.heap.size := cell_lt d30
  have l2 : w3.heap.size < w7.heap.size := cell_lt d40
  have l3 : w4.heap.size < w7.heap.size := cell_lt d50
  have l4 : w5.heap.size < w7.heap.size := cell_lt d60
  go_wp2_with fail
  go_at_call 70
  refine (fm _).mono ?_
  rintro e w8 ⟨rfl, hb8⟩
  have s8 := hb8.size
  try simp at s8
  replace d20 := bkeep2 hb8 d20
  replace d21 := bkeep2 hb8 d21
  replace d30 := bkeep2 hb8 d30
  replace d31 := bkeep2 hb8 d31
  replace d40 := bkeep2 hb8 d40
  replace d41 := bkeep2 hb8 d41
  replace d50 := bkeep2 hb8 d50
  replace d51 := bkeep2 hb8 d51
  replace d60 := bkeep2 hb8 d60
  replace d61 := bkeep2 hb8 d61
  have l0 : w1.heap.size < w8.heap.size := cell_lt d20
  have l1 : w2.heap.size < w8.heap.size := cell_lt d30
  have l2 : w3.heap.size < w8.heap.size := cell_lt d40
  have l3 : w4.heap.size < w8.heap.size := cell_lt d50
  have l4 : w5.heap.size < w8.heap.size := cell_lt d60
  go_wp2_with fail
  go_at_call 72
  refine (lo1 _).mono ?_
  rintro e w9 ⟨rfl, hb9⟩
  have s9 := hb9.size
  try simp at s9
  replace d20 := bkeep2 hb9 d20
  replace d21 := bkeep2 hb9 d21
  replace d30 := bkeep2 hb9 d30
  replace d31 := bkeep2 hb9 d31
  replace d40 := bkeep2 hb9 d40
  replace d41 := bkeep2 hb9 d41
  replace d50 := bkeep2 hb9 d50
  replace d51 := bkeep2 hb9 d51
  replace d60 := bkeep2 hb9 d60
  replace d61 := bkeep2 hb9 d61
  have l0 : w1.heap.size < w9.heap.size := cell_lt d20
  have l1 : w2.heap.size < w9.heap.size := cell_lt d30
  have l2 : w3.heap.size < w9.heap.size := cell_lt d40
  have l3 : w4.heap.size < w9.heap.size := cell_lt d50
  have l4 : w5.heap.size < w9.heap.size := cell_lt d60
  go_wp2_with fail
  go_at_call 72
  refine (lo2 _).mono ?_
  rintro e w10 ⟨rfl, hb10⟩
  have s10 := hb10.size
  try simp at s10
  replace d20 := bkeep2 hb10 d20
  replace d21 := bkeep2 hb10 d21
  replace d30 := bkeep2 hb10 d30
  replace d31 := bkeep2 hb10 d31
  replace d40 := bkeep2 hb10 d40
  replace d41 := bkeep2 hb10 d41
  replace d50 := bkeep2 hb10 d50
  replace d51 := bkeep2 hb10 d51
  replace d60 := bkeep2 hb10 d60
  replace d61 := bkeep2 hb10 d61
  have l0 : w1.heap.size < w10.heap.size := cell_lt d20
  have l1 : w2.heap.size < w10.heap.size := cell_lt d30
  have l2 : w3.heap.size < w10.heap.size := cell_lt d40
  have l3 : w4.heap.size < w10.heap.size := cell_lt d50
  have l4 : w5.heap.size < w10.heap.size := cell_lt d60
  go_wp2_with fail
  go_ret
  refine ⟨rfl, ?_⟩
  repeat (with_reducible first | exact Below.refl _ _ | assumption | refine Below.drew ?_ | refine bl_drewN ?_ _ | refine Below.setCell ?_ (by first | omega | (simp; done) | (simp; omega)) _ | refine Below.alloc ?_ (by first | omega | (simp; done) | (simp; omega)) _ | refine bl_next ?_ (by assumption) | refine bl_trans ?_ (by assumption) (by first | omega | (simp; done) | (simp; omega)))

set_option maxHeartbeats 4000000 in
theorem tight_m1_w (v : Value) (f : Nat → Nat) (g1 g2 g3 h1 h2 h3 k1 k2 k3 : Nat)
    (cs : ∀ w, Calls Try.prog 67 #[.agg #[.complex .f64 (f 0) (f 1), .float .f64 (f 2)], .agg #[.complex .f64 (f 3) (f 4), .float .f64 (f 5)]] w fun e w' => e = .returned (.agg #[.complex .f64 g1 g2, .float .f64 g3]) ∧ Below w.heap.size w w')
    (cd : ∀ w, Calls Try.prog 68 #[.agg #[.complex .f64 (f 0) (f 1), .float .f64 (f 2)], .agg #[.complex .f64 (f 3) (f 4), .float .f64 (f 5)]] w fun e w' => e = .returned (.agg #[.complex .f64 h1 h2, .float .f64 h3]) ∧ Below w.heap.size w w')
    (cm : ∀ w, Calls Try.prog 69 #[.agg #[.complex .f64 (f 0) (f 1), .float .f64 (f 2)], .agg #[.complex .f64 (f 3) (f 4), .float .f64 (f 5)]] w fun e w' => e = .returned (.agg #[.complex .f64 k1 k2, .float .f64 k3]) ∧ Below w.heap.size w w')
    (fs : ∀ w, Calls Try.prog 70 #[.agg #[.complex .f64 g1 g2, .float .f64 g3]] w fun e w' => e = .returned (.bool true) ∧ Below w.heap.size w w')
    (fd : ∀ w, Calls Try.prog 70 #[.agg #[.complex .f64 h1 h2, .float .f64 h3]] w fun e w' => e = .returned (.bool true) ∧ Below w.heap.size w w')
    (fm : ∀ w, Calls Try.prog 70 #[.agg #[.complex .f64 k1 k2, .float .f64 k3]] w fun e w' => e = .returned (.bool true) ∧ Below w.heap.size w w')
    (lo1 : ∀ w, Calls Try.prog 72 #[.agg #[.complex .f64 (f 0) (f 1), .float .f64 (f 2)]] w fun e w' => e = .returned (.bool false) ∧ Below w.heap.size w w')
    (lo2 : ∀ w, Calls Try.prog 72 #[.agg #[.complex .f64 (f 3) (f 4), .float .f64 (f 5)]] w fun e w' => e = .returned (.bool false) ∧ Below w.heap.size w w')
    (mo1 : ∀ w, Calls Try.prog 73 #[.agg #[.complex .f64 (f 0) (f 1), .float .f64 (f 2)]] w fun e w' => e = .returned (.bool false) ∧ Below w.heap.size w w')
    (o0 : (Ieee.double.order g3 0 == some .gt || Ieee.double.order g3 0 == some .eq) = true)
    (o1 : (Ieee.double.order h3 0 == some .gt || Ieee.double.order h3 0 == some .eq) = true)
    (o2 : (Ieee.double.order k3 0 == some .gt || Ieee.double.order k3 0 == some .eq) = true)
    (w : World) (hl : Lst w v f) :
    Calls Try.prog 13 #[v] w fun e w' => e = .returned (.bool true) ∧ Below w.heap.size w w' := by
  go_enter Try.func13, Try.ntmps13
  go_wp2_with fail
  go_at_call 71
  refine (disc0_w v f _ hl).mono ?_
  rintro e w1 ⟨rfl, hb1⟩
  have s1 := hb1.size
  try simp at s1
  go_wp2_with fail
  go_at_call 71
  refine (disc3_w v f _ ((hl.below hb1).below (bl_alloc (Below.refl _ _)))).mono ?_
  rintro e w2 ⟨rfl, hb2⟩
  have s2 := hb2.size
  try simp at s2
  have d20 : w2.cell? ⟨w1.heap.size, 0, none⟩ = some (.complex .f64 (f 0) (f 1)) := bkeep2 hb2 (by simp [go_sem])
  have d21 : w2.cell? ⟨w1.heap.size, 1, none⟩ = some (.float .f64 (f 2)) := bkeep2 hb2 (by simp [go_sem])
  have l0 : w1.heap.size < w2.heap.size := cell_lt d20
  go_wp2_with fail
  go_at_call 67
  refine (cs _).mono ?_
  rintro e w3 ⟨rfl, hb3⟩
  have s3 := hb3.size
  try simp at s3
  replace d20 := bkeep3 hb3 d20
  replace d21 := bkeep3 hb3 d21
  have d30 : w3.cell? ⟨w2.heap.size, 0, none⟩ = some (.complex .f64 (f 3) (f 4)) := bkeep2 hb3 (by simp [go_sem])
  have d31 : w3.cell? ⟨w2.heap.size, 1, none⟩ = some (.float .f64 (f 5)) := bkeep2 hb3 (by simp [go_sem])
  have l0 : w1.heap.size < w3.heap.size := cell_lt d20
  have l1 : w2.heap.size < w3.heap.size := cell_lt d30
  go_wp2_with fail
  go_at_call 68
  refine (cd _).mono ?_
  rintro e w4 ⟨rfl, hb4⟩
  have s4 := hb4.size
  try simp at s4
  replace d20 := bkeep3 hb4 d20
  replace d21 := bkeep3 hb4 d21
  replace d30 := bkeep3 hb4 d30
  replace d31 := bkeep3 hb4 d31
  have d40 : w4.cell? ⟨w3.heap.size, 0, none⟩ = some (.complex .f64 g1 g2) := bkeep2 hb4 (by simp [go_sem])
  have d41 : w4.cell? ⟨w3.heap.size, 1, none⟩ = some (.float .f64 g3) := bkeep2 hb4 (by simp [go_sem])
  have l0 : w1.heap.size < w4.heap.size := cell_lt d20
  have l1 : w2.heap.size < w4.heap.size := cell_lt d30
  have l2 : w3.heap.size < w4.heap.size := cell_lt d40
  go_wp2_with fail
  go_at_call 69
  refine (cm _).mono ?_
  rintro e w5 ⟨rfl, hb5⟩
  have s5 := hb5.size
  try simp at s5
  replace d20 := bkeep3 hb5 d20
  replace d21 := bkeep3 hb5 d21
  replace d30 := bkeep3 hb5 d30
  replace d31 := bkeep3 hb5 d31
  replace d40 := bkeep3 hb5 d40
  replace d41 := bkeep3 hb5 d41
  have d50 : w5.cell? ⟨w4.heap.size, 0, none⟩ = some (.complex .f64 h1 h2) := bkeep2 hb5 (by simp [go_sem])
  have d51 : w5.cell? ⟨w4.heap.size, 1, none⟩ = some (.float .f64 h3) := bkeep2 hb5 (by simp [go_sem])
  have l0 : w1.heap.size < w5.heap.size := cell_lt d20
  have l1 : w2.heap.size < w5.heap.size := cell_lt d30
  have l2 : w3.heap.size < w5.heap.size := cell_lt d40
  have l3 : w4.heap.size < w5.heap.size := cell_lt d50
  go_wp2_with fail
  go_at_call 70
  refine (fs _).mono ?_
  rintro e w6 ⟨rfl, hb6⟩
  have s6 := hb6.size
  try simp at s6
  replace d20 := bkeep3 hb6 d20
  replace d21 := bkeep3 hb6 d21
  replace d30 := bkeep3 hb6 d30
  replace d31 := bkeep3 hb6 d31
  replace d40 := bkeep3 hb6 d40
  replace d41 := bkeep3 hb6 d41
  replace d50 := bkeep3 hb6 d50
  replace d51 := bkeep3 hb6 d51
  have d60 : w6.cell? ⟨w5.heap.size, 0, none⟩ = some (.complex .f64 k1 k2) := bkeep2 hb6 (by simp [go_sem])
  have d61 : w6.cell? ⟨w5.heap.size, 1, none⟩ = some (.float .f64 k3) := bkeep2 hb6 (by simp [go_sem])
  have l0 : w1.heap.size < w6.heap.size := cell_lt d20
  have l1 : w2.heap.size < w6.heap.size := cell_lt d30
  have l2 : w3.heap.size < w6.heap.size := cell_lt d40
  have l3 : w4.heap.size < w6.heap.size := cell_lt d50
  have l4 : w5.heap.size < w6.heap.size := cell_lt d60
  go_wp2_with fail
  go_at_call 70
  refine (fd _).mono ?_
  rintro e w7 ⟨rfl, hb7⟩
  have s7 := hb7.size
  try simp at s7
  replace d20 := bkeep2 hb7 d20
  replace d21 := bkeep2 hb7 d21
  replace d30 := bkeep2 hb7 d30
  replace d31 := bkeep2 hb7 d31
  replace d40 := bkeep2 hb7 d40
  replace d41 := bkeep2 hb7 d41
  replace d50 := bkeep2 hb7 d50
  replace d51 := bkeep2 hb7 d51
  replace d60 := bkeep2 hb7 d60
  replace d61 := bkeep2 hb7 d61
  have l0 : w1.heap.size < w7.heap.size := cell_lt d20
  have l1 : w2.heap.size < w7.heap.size := cell_lt d30
  have l2 : w3.heap.size < w7.heap.size := cell_lt d40
  have l3 : w4.heap.size < w7.heap.size := cell_lt d50
  have l4 : w5.heap.size < w7.heap.size := cell_lt d60
  go_wp2_with fail
  go_at_call 70
  refine (fm _).mono ?_
  rintro e w8 ⟨rfl, hb8⟩
  have s8 := hb8.size
  try simp at s8
  replace d20 := bkeep2 hb8 d20
  replace d21 := bkeep2 hb8 d21
  replace d30 := bkeep2 hb8 d30
  replace d31 := bkeep2 hb8 d31
  replace d40 := bkeep2 hb8 d40
  replace d41 := bkeep2 hb8 d41
  replace d50 := bkeep2 hb8 d50
  replace d51 := bkeep2 hb8 d51
  replace d60 := bkeep2 hb8 d60
  replace d61 := bkeep2 hb8 d61
  have l0 : w1.heap.size < w8.heap.size := cell_lt d20
  have l1 : w2.heap.size < w8.heap.size := cell_lt d30
  have l2 : w3.heap.size < w8.heap.size := cell_lt d40
  have l3 : w4.heap.size < w8.heap.size := cell_lt d50
  have l4 : w5.heap.size < w8.heap.size := cell_lt d60
  go_wp2_with fail
  go_at_call 72
  refine (lo1 _).mono ?_
  rintro e w9 ⟨rfl, hb9⟩
  have s9 := hb9.size
  try simp at s9
  replace d20 := bkeep2 hb9 d20
  replace d21 := bkeep2 hb9 d21
  replace d30 := bkeep2 hb9 d30
  replace d31 := bkeep2 hb9 d31
  replace d40 := bkeep2 hb9 d40
  replace d41 := bkeep2 hb9 d41
  replace d50 := bkeep2 hb9 d50
  replace d51 := bkeep2 hb9 d51
  replace d60 := bkeep2 hb9 d60
  replace d61 := bkeep2 hb9 d61
  have l0 : w1.heap.size < w9.heap.size := cell_lt d20
  have l1 : w2.heap.size < w9.heap.size := cell_lt d30
  have l2 : w3.heap.size < w9.heap.size := cell_lt d40
  have l3 : w4.heap.size < w9.heap.size := cell_lt d50
  have l4 : w5.heap.size < w9.heap.size := cell_lt d60
  go_wp2_with fail
  go_at_call 72
  refine (lo2 _).mono ?_
  rintro e w10 ⟨rfl, hb10⟩
  have s10 := hb10.size
  try simp at s10
  replace d20 := bkeep2 hb10 d20
  replace d21 := bkeep2 hb10 d21
  replace d30 := bkeep2 hb10 d30
  replace d31 := bkeep2 hb10 d31
  replace d40 := bkeep2 hb10 d40
  replace d41 := bkeep2 hb10 d41
  replace d50 := bkeep2 hb10 d50
  replace d51 := bkeep2 hb10 d51
  replace d60 := bkeep2 hb10 d60
  replace d61 := bkeep2 hb10 d61
  have l0 : w1.heap.size < w10.heap.size := cell_lt d20
  have l1 : w2.heap.size < w10.heap.size := cell_lt d30
  have l2 : w3.heap.size < w10.heap.size := cell_lt d40
  have l3 : w4.heap.size < w10.heap.size := cell_lt d50
  have l4 : w5.heap.size < w10.heap.size := cell_lt d60
  go_wp2_with fail
  go_at_call 73
  refine (mo1 _).mono ?_
  rintro e w11 ⟨rfl, hb11⟩
  have s11 := hb11.size
  try simp at s11
  replace d20 := bkeep2 hb11 d20
  replace d21 := bkeep2 hb11 d21
  replace d30 := bkeep2 hb11 d30
  replace d31 := bkeep2 hb11 d31
  replace d40 := bkeep2 hb11 d40
  replace d41 := bkeep2 hb11 d41
  replace d50 := bkeep2 hb11 d50
  replace d51 := bkeep2 hb11 d51
  replace d60 := bkeep2 hb11 d60
  replace d61 := bkeep2 hb11 d61
  have l0 : w1.heap.size < w11.heap.size := cell_lt d20
  have l1 : w2.heap.size < w11.heap.size := cell_lt d30
  have l2 : w3.heap.size < w11.heap.size := cell_lt d40
  have l3 : w4.heap.size < w11.heap.size := cell_lt d50
  have l4 : w5.heap.size < w11.heap.size := cell_lt d60
  go_wp2_with fail
  go_ret
  refine ⟨rfl, ?_⟩
  repeat (with_reducible first | exact Below.refl _ _ | assumption | refine Below.drew ?_ | refine bl_drewN ?_ _ | refine Below.setCell ?_ (by first | omega | (simp; done) | (simp; omega)) _ | refine Below.alloc ?_ (by first | omega | (simp; done) | (simp; omega)) _ | refine bl_next ?_ (by assumption) | refine bl_trans ?_ (by assumption) (by first | omega | (simp; done) | (simp; omega)))

set_option maxHeartbeats 4000000 in
theorem tight_m2_w (v : Value) (f : Nat → Nat) (g1 g2 g3 h1 h2 h3 k1 k2 k3 : Nat)
    (cs : ∀ w, Calls Try.prog 67 #[.agg #[.complex .f64 (f 0) (f 1), .float .f64 (f 2)], .agg #[.complex .f64 (f 3) (f 4), .float .f64 (f 5)]] w fun e w' => e = .returned (.agg #[.complex .f64 g1 g2, .float .f64 g3]) ∧ Below w.heap.size w w')
    (cd : ∀ w, Calls Try.prog 68 #[.agg #[.complex .f64 (f 0) (f 1), .float .f64 (f 2)], .agg #[.complex .f64 (f 3) (f 4), .float .f64 (f 5)]] w fun e w' => e = .returned (.agg #[.complex .f64 h1 h2, .float .f64 h3]) ∧ Below w.heap.size w w')
    (cm : ∀ w, Calls Try.prog 69 #[.agg #[.complex .f64 (f 0) (f 1), .float .f64 (f 2)], .agg #[.complex .f64 (f 3) (f 4), .float .f64 (f 5)]] w fun e w' => e = .returned (.agg #[.complex .f64 k1 k2, .float .f64 k3]) ∧ Below w.heap.size w w')
    (fs : ∀ w, Calls Try.prog 70 #[.agg #[.complex .f64 g1 g2, .float .f64 g3]] w fun e w' => e = .returned (.bool true) ∧ Below w.heap.size w w')
    (fd : ∀ w, Calls Try.prog 70 #[.agg #[.complex .f64 h1 h2, .float .f64 h3]] w fun e w' => e = .returned (.bool true) ∧ Below w.heap.size w w')
    (fm : ∀ w, Calls Try.prog 70 #[.agg #[.complex .f64 k1 k2, .float .f64 k3]] w fun e w' => e = .returned (.bool true) ∧ Below w.heap.size w w')
    (lo1 : ∀ w, Calls Try.prog 72 #[.agg #[.complex .f64 (f 0) (f 1), .float .f64 (f 2)]] w fun e w' => e = .returned (.bool false) ∧ Below w.heap.size w w')
    (lo2 : ∀ w, Calls Try.prog 72 #[.agg #[.complex .f64 (f 3) (f 4), .float .f64 (f 5)]] w fun e w' => e = .returned (.bool false) ∧ Below w.heap.size w w')
    (mo1 : ∀ w, Calls Try.prog 73 #[.agg #[.complex .f64 (f 0) (f 1), .float .f64 (f 2)]] w fun e w' => e = .returned (.bool true) ∧ Below w.heap.size w w')
    (mo2 : ∀ w, Calls Try.prog 73 #[.agg #[.complex .f64 (f 3) (f 4), .float .f64 (f 5)]] w fun e w' => e = .returned (.bool false) ∧ Below w.heap.size w w')
    (o0 : (Ieee.double.order g3 0 == some .gt || Ieee.double.order g3 0 == some .eq) = true)
    (o1 : (Ieee.double.order h3 0 == some .gt || Ieee.double.order h3 0 == some .eq) = true)
    (o2 : (Ieee.double.order k3 0 == some .gt || Ieee.double.order k3 0 == some .eq) = true)
    (w : World) (hl : Lst w v f) :
    Calls Try.prog 13 #[v] w fun e w' => e = .returned (.bool true) ∧ Below w.heap.size w w' := by
  go_enter Try.func13, Try.ntmps13
  go_wp2_with fail
  go_at_call 71
  refine (disc0_w v f _ hl).mono ?_
  rintro e w1 ⟨rfl, hb1⟩
  have s1 := hb1.size
  try simp at s1
  go_wp2_with fail
  go_at_call 71
  refine (disc3_w v f _ ((hl.below hb1).below (bl_alloc (Below.refl _ _)))).mono ?_
  rintro e w2 ⟨rfl, hb2⟩
  have s2 := hb2.size
  try simp at s2
  have d20 : w2.cell? ⟨w1.heap.size, 0, none⟩ = some (.complex .f64 (f 0) (f 1)) := bkeep2 hb2 (by simp [go_sem])
  have d21 : w2.cell? ⟨w1.heap.size, 1, none⟩ = some (.float .f64 (f 2)) := bkeep2 hb2 (by simp [go_sem])
  have l0 : w1.heap.size < w2.heap.size := cell_lt d20
  go_wp2_with fail
  go_at_call 67
  refine (cs _).mono ?_
  rintro e w3 ⟨rfl, hb3⟩
  have s3 := hb3.size
  try simp at s3
  replace d20 := bkeep3 hb3 d20
  replace d21 := bkeep3 hb3 d21
  have d30 : w3.cell? ⟨w2.heap.size, 0, none⟩ = some (.complex .f64 (f 3) (f 4)) := bkeep2 hb3 (by simp [go_sem])
  have d31 : w3.cell? ⟨w2.heap.size, 1, none⟩ = some (.float .f64 (f 5)) := bkeep2 hb3 (by simp [go_sem])
  have l0 : w1.heap.size < w3.heap.size := cell_lt d20
  have l1 : w2.heap.size < w3.heap.size := cell_lt d30
  go_wp2_with fail
  go_at_call 68
  refine (cd _).mono ?_
  rintro e w4 ⟨rfl, hb4⟩
  have s4 := hb4.size
  try simp at s4
  replace d20 := bkeep3 hb4 d20
  replace d21 := bkeep3 hb4 d21
  replace d30 := bkeep3 hb4 d30
  replace d31 := bkeep3 hb4 d31
  have d40 : w4.cell? ⟨w3.heap.size, 0, none⟩ = some (.complex .f64 g1 g2) := bkeep2 hb4 (by simp [go_sem])
  have d41 : w4.cell? ⟨w3.heap.size, 1, none⟩ = some (.float .f64 g3) := bkeep2 hb4 (by simp [go_sem])
  have l0 : w1.heap.size < w4.heap.size := cell_lt d20
  have l1 : w2.heap.size < w4.heap.size := cell_lt d30
  have l2 : w3.heap.size < w4.heap.size := cell_lt d40
  go_wp2_with fail
  go_at_call 69
  refine (cm _).mono ?_
  rintro e w5 ⟨rfl, hb5⟩
  have s5 := hb5.size
  try simp at s5
  replace d20 := bkeep3 hb5 d20
  replace d21 := bkeep3 hb5 d21
  replace d30 := bkeep3 hb5 d30
  replace d31 := bkeep3 hb5 d31
  replace d40 := bkeep3 hb5 d40
  replace d41 := bkeep3 hb5 d41
  have d50 : w5.cell? ⟨w4.heap.size, 0, none⟩ = some (.complex .f64 h1 h2) := bkeep2 hb5 (by simp [go_sem])
  have d51 : w5.cell? ⟨w4.heap.size, 1, none⟩ = some (.float .f64 h3) := bkeep2 hb5 (by simp [go_sem])
  have l0 : w1.heap.size < w5.heap.size := cell_lt d20
  have l1 : w2.heap.size < w5.heap.size := cell_lt d30
  have l2 : w3.heap.size < w5.heap.size := cell_lt d40
  have l3 : w4.heap.size < w5.heap.size := cell_lt d50
  go_wp2_with fail
  go_at_call 70
  refine (fs _).mono ?_
  rintro e w6 ⟨rfl, hb6⟩
  have s6 := hb6.size
  try simp at s6
  replace d20 := bkeep3 hb6 d20
  replace d21 := bkeep3 hb6 d21
  replace d30 := bkeep3 hb6 d30
  replace d31 := bkeep3 hb6 d31
  replace d40 := bkeep3 hb6 d40
  replace d41 := bkeep3 hb6 d41
  replace d50 := bkeep3 hb6 d50
  replace d51 := bkeep3 hb6 d51
  have d60 : w6.cell? ⟨w5.heap.size, 0, none⟩ = some (.complex .f64 k1 k2) := bkeep2 hb6 (by simp [go_sem])
  have d61 : w6.cell? ⟨w5.heap.size, 1, none⟩ = some (.float .f64 k3) := bkeep2 hb6 (by simp [go_sem])
  have l0 : w1.heap.size < w6.heap.size := cell_lt d20
  have l1 : w2.heap.size < w6.heap.size := cell_lt d30
  have l2 : w3.heap.size < w6.heap.size := cell_lt d40
  have l3 : w4.heap.size < w6.heap.size := cell_lt d50
  have l4 : w5.heap.size < w6.heap.size := cell_lt d60
  go_wp2_with fail
  go_at_call 70
  refine (fd _).mono ?_
  rintro e w7 ⟨rfl, hb7⟩
  have s7 := hb7.size
  try simp at s7
  replace d20 := bkeep2 hb7 d20
  replace d21 := bkeep2 hb7 d21
  replace d30 := bkeep2 hb7 d30
  replace d31 := bkeep2 hb7 d31
  replace d40 := bkeep2 hb7 d40
  replace d41 := bkeep2 hb7 d41
  replace d50 := bkeep2 hb7 d50
  replace d51 := bkeep2 hb7 d51
  replace d60 := bkeep2 hb7 d60
  replace d61 := bkeep2 hb7 d61
  have l0 : w1.heap.size < w7.heap.size := cell_lt d20
  have l1 : w2.heap.size < w7.heap.size := cell_lt d30
  have l2 : w3.heap.size < w7.heap.size := cell_lt d40
  have l3 : w4.heap.size < w7.heap.size := cell_lt d50
  have l4 : w5.heap.size < w7.heap.size := cell_lt d60
  go_wp2_with fail
  go_at_call 70
  refine (fm _).mono ?_
  rintro e w8 ⟨rfl, hb8⟩
  have s8 := hb8.size
  try simp at s8
  replace d20 := bkeep2 hb8 d20
  replace d21 := bkeep2 hb8 d21
  replace d30 := bkeep2 hb8 d30
  replace d31 := bkeep2 hb8 d31
  replace d40 := bkeep2 hb8 d40
  replace d41 := bkeep2 hb8 d41
  replace d50 := bkeep2 hb8 d50
  replace d51 := bkeep2 hb8 d51
  replace d60 := bkeep2 hb8 d60
  replace d61 := bkeep2 hb8 d61
  have l0 : w1.heap.size < w8.heap.size := cell_lt d20
  have l1 : w2.heap.size < w8.heap.size := cell_lt d30
  have l2 : w3.heap.size < w8.heap.size := cell_lt d40
  have l3 : w4.heap.size < w8.heap.size := cell_lt d50
  have l4 : w5.heap.size < w8.heap.size := cell_lt d60
  go_wp2_with fail
  go_at_call 72
  refine (lo1 _).mono ?_
  rintro e w9 ⟨rfl, hb9⟩
  have s9 := hb9.size
  try simp at s9
  replace d20 := bkeep2 hb9 d20
  replace d21 := bkeep2 hb9 d21
  replace d30 := bkeep2 hb9 d30
  replace d31 := bkeep2 hb9 d31
  replace d40 := bkeep2 hb9 d40
  replace d41 := bkeep2 hb9 d41
  replace d50 := bkeep2 hb9 d50
  replace d51 := bkeep2 hb9 d51
  replace d60 := bkeep2 hb9 d60
  replace d61 := bkeep2 hb9 d61
  have l0 : w1.heap.size < w9.heap.size := cell_lt d20
  have l1 : w2.heap.size < w9.heap.size := cell_lt d30
  have l2 : w3.heap.size < w9.heap.size := cell_lt d40
  have l3 : w4.heap.size < w9.heap.size := cell_lt d50
  have l4 : w5.heap.size < w9.heap.size := cell_lt d60
  go_wp2_with fail
  go_at_call 72
  refine (lo2 _).mono ?_
  rintro e w10 ⟨rfl, hb10⟩
  have s10 := hb10.size
  try simp at s10
  replace d20 := bkeep2 hb10 d20
  replace d21 := bkeep2 hb10 d21
  replace d30 := bkeep2 hb10 d30
  replace d31 := bkeep2 hb10 d31
  replace d40 := bkeep2 hb10 d40
  replace d41 := bkeep2 hb10 d41
  replace d50 := bkeep2 hb10 d50
  replace d51 := bkeep2 hb10 d51
  replace d60 := bkeep2 hb10 d60
  replace d61 := bkeep2 hb10 d61
  have l0 : w1.heap.size < w10.heap.size := cell_lt d20
  have l1 : w2.heap.size < w10.heap.size := cell_lt d30
  have l2 : w3.heap.size < w10.heap.size := cell_lt d40
  have l3 : w4.heap.size < w10.heap.size := cell_lt d50
  have l4 : w5.heap.size < w10.heap.size := cell_lt d60
  go_wp2_with fail
  go_at_call 73
  refine (mo1 _).mono ?_
  rintro e w11 ⟨rfl, hb11⟩
  have s11 := hb11.size
  try simp at s11
  replace d20 := bkeep2 hb11 d20
  replace d21 := bkeep2 hb11 d21
  replace d30 := bkeep2 hb11 d30
  replace d31 := bkeep2 hb11 d31
  replace d40 := bkeep2 hb11 d40
  replace d41 := bkeep2 hb11 d41
  replace d50 := bkeep2 hb11 d50
  replace d51 := bkeep2 hb11 d51
  replace d60 := bkeep2 hb11 d60
  replace d61 := bkeep2 hb11 d61
  have l0 : w1.heap.size < w11.heap.size := cell_lt d20
  have l1 : w2.heap.size < w11.heap.size := cell_lt d30
  have l2 : w3.heap.size < w11.heap.size := cell_lt d40
  have l3 : w4.heap.size < w11.heap.size := cell_lt d50
  have l4 : w5.heap.size < w11.heap.size := cell_lt d60
  go_wp2_with fail
  go_at_call 73
  refine (mo2 _).mono ?_
  rintro e w12 ⟨rfl, hb12⟩
  have s12 := hb12.size
  try simp at s12
  replace d20 := bkeep2 hb12 d20
  replace d21 := bkeep2 hb12 d21
  replace d30 := bkeep2 hb12 d30
  replace d31 := bkeep2 hb12 d31
  replace d40 := bkeep2 hb12 d40
  replace d41 := bkeep2 hb12 d41
  replace d50 := bkeep2 hb12 d50
  replace d51 := bkeep2 hb12 d51
  replace d60 := bkeep2 hb12 d60
  replace d61 := bkeep2 hb12 d61
  have l0 : w1.heap.size < w12.heap.size := cell_lt d20
  have l1 : w2.heap.size < w12.heap.size := cell_lt d30
  have l2 : w3.heap.size < w12.heap.size := cell_lt d40
  have l3 : w4.heap.size < w12.heap.size := cell_lt d50
  have l4 : w5.heap.size < w12.heap.size := cell_lt d60
  go_wp2_with fail
  go_ret
  refine ⟨rfl, ?_⟩
  repeat (with_reducible first | exact Below.refl _ _ | assumption | refine Below.drew ?_ | refine bl_drewN ?_ _ | refine Below.setCell ?_ (by first | omega | (simp; done) | (simp; omega)) _ | refine Below.alloc ?_ (by first | omega | (simp; done) | (simp; omega)) _ | refine bl_next ?_ (by assumption) | refine bl_trans ?_ (by assumption) (by first | omega | (simp; done) | (simp; omega)))

set_option maxHeartbeats 4000000 in
theorem tight_ok_w (v : Value) (f : Nat → Nat) (g1 g2 g3 h1 h2 h3 k1 k2 k3 : Nat)
    (cs : ∀ w, Calls Try.prog 67 #[.agg #[.complex .f64 (f 0) (f 1), .float .f64 (f 2)], .agg #[.complex .f64 (f 3) (f 4), .float .f64 (f 5)]] w fun e w' => e = .returned (.agg #[.complex .f64 g1 g2, .float .f64 g3]) ∧ Below w.heap.size w w')
    (cd : ∀ w, Calls Try.prog 68 #[.agg #[.complex .f64 (f 0) (f 1), .float .f64 (f 2)], .agg #[.complex .f64 (f 3) (f 4), .float .f64 (f 5)]] w fun e w' => e = .returned (.agg #[.complex .f64 h1 h2, .float .f64 h3]) ∧ Below w.heap.size w w')
    (cm : ∀ w, Calls Try.prog 69 #[.agg #[.complex .f64 (f 0) (f 1), .float .f64 (f 2)], .agg #[.complex .f64 (f 3) (f 4), .float .f64 (f 5)]] w fun e w' => e = .returned (.agg #[.complex .f64 k1 k2, .float .f64 k3]) ∧ Below w.heap.size w w')
    (fs : ∀ w, Calls Try.prog 70 #[.agg #[.complex .f64 g1 g2, .float .f64 g3]] w fun e w' => e = .returned (.bool true) ∧ Below w.heap.size w w')
    (fd : ∀ w, Calls Try.prog 70 #[.agg #[.complex .f64 h1 h2, .float .f64 h3]] w fun e w' => e = .returned (.bool true) ∧ Below w.heap.size w w')
    (fm : ∀ w, Calls Try.prog 70 #[.agg #[.complex .f64 k1 k2, .float .f64 k3]] w fun e w' => e = .returned (.bool true) ∧ Below w.heap.size w w')
    (lo1 : ∀ w, Calls Try.prog 72 #[.agg #[.complex .f64 (f 0) (f 1), .float .f64 (f 2)]] w fun e w' => e = .returned (.bool false) ∧ Below w.heap.size w w')
    (lo2 : ∀ w, Calls Try.prog 72 #[.agg #[.complex .f64 (f 3) (f 4), .float .f64 (f 5)]] w fun e w' => e = .returned (.bool false) ∧ Below w.heap.size w w')
    (mo1 : ∀ w, Calls Try.prog 73 #[.agg #[.complex .f64 (f 0) (f 1), .float .f64 (f 2)]] w fun e w' => e = .returned (.bool true) ∧ Below w.heap.size w w')
    (mo2 : ∀ w, Calls Try.prog 73 #[.agg #[.complex .f64 (f 3) (f 4), .float .f64 (f 5)]] w fun e w' => e = .returned (.bool true) ∧ Below w.heap.size w w')
    (p q ax ay sx sy mx my r1 m1 r2 r3 r4 r5 r6 m2 : Nat)
    (z1 : ∀ w, Calls Try.prog 74 #[.complex .f64 (f 0) (f 1)] w fun e w' => e = .returned (.float .f64 p) ∧ Below w.heap.size w w')
    (z2 : ∀ w, Calls Try.prog 74 #[.complex .f64 (f 3) (f 4)] w fun e w' => e = .returned (.float .f64 q) ∧ Below w.heap.size w w')
    (e1 : cSumBits .add .f64 (f 0) (f 1) (f 3) (f 4) = some (ax, ay))
    (e2 : cSumBits .sub .f64 (f 0) (f 1) (f 3) (f 4) = some (sx, sy))
    (e3 : cMulBits (f 0) (f 1) (f 3) (f 4) = some (mx, my))
    (e4 : Ieee.double.add (f 2) (f 5) = some r1)
    (e5 : Ieee.double.add p q = some m1)
    (e6 : Ieee.double.mul p (f 5) = some r2)
    (e7 : Ieee.double.mul q (f 2) = some r3)
    (e8 : Ieee.double.add r2 r3 = some r4)
    (e9 : Ieee.double.mul (f 2) (f 5) = some r5)
    (e10 : Ieee.double.add r4 r5 = some r6)
    (e11 : Ieee.double.mul p q = some m2)
    (y1 : ∀ w, Calls Try.prog 75 #[.agg #[.complex .f64 g1 g2, .float .f64 g3], .complex .f64 ax ay, .float .f64 r1, .float .f64 m1] w fun e w' => e = .returned (.bool true) ∧ Below w.heap.size w w')
    (y2 : ∀ w, Calls Try.prog 75 #[.agg #[.complex .f64 h1 h2, .float .f64 h3], .complex .f64 sx sy, .float .f64 r1, .float .f64 m1] w fun e w' => e = .returned (.bool true) ∧ Below w.heap.size w w')
    (y3 : ∀ w, Calls Try.prog 75 #[.agg #[.complex .f64 k1 k2, .float .f64 k3], .complex .f64 mx my, .float .f64 r6, .float .f64 m2] w fun e w' => e = .returned (.bool true) ∧ Below w.heap.size w w')
    (w : World) (hl : Lst w v f) :
    Calls Try.prog 13 #[v] w fun e w' => e = .returned (.bool true) ∧ Below w.heap.size w w' := by
  have q1 := fun t' w => run_complex_sum (P := Try.prog) w .add (.inl rfl) t' .f64 _ _ _ _ _ _ e1
  have q2 := fun t' w => run_complex_sum (P := Try.prog) w .sub (.inr rfl) t' .f64 _ _ _ _ _ _ e2
  have q3 := fun t' w => run_complex_mul (P := Try.prog) w t' _ _ _ _ _ _ e3
  have q4 := fun t' w => run_float_arith (P := Try.prog) w .add t' .f64 _ _ _ e4
  have q5 := fun t' w => run_float_arith (P := Try.prog) w .add t' .f64 _ _ _ e5
  have q6 := fun t' w => run_float_arith (P := Try.prog) w .mul t' .f64 _ _ _ e6
  have q7 := fun t' w => run_float_arith (P := Try.prog) w .mul t' .f64 _ _ _ e7
  have q8 := fun t' w => run_float_arith (P := Try.prog) w .add t' .f64 _ _ _ e8
  have q9 := fun t' w => run_float_arith (P := Try.prog) w .mul t' .f64 _ _ _ e9
  have q10 := fun t' w => run_float_arith (P := Try.prog) w .add t' .f64 _ _ _ e10
  have q11 := fun t' w => run_float_arith (P := Try.prog) w .mul t' .f64 _ _ _ e11
  clear e1 e2 e3 e4 e5 e6 e7 e8 e9 e10 e11
  go_enter Try.func13, Try.ntmps13
  go_wp2_with fail
  go_at_call 71
  refine (disc0_w v f _ hl).mono ?_
  rintro e w1 ⟨rfl, hb1⟩
  have s1 := hb1.size
  try simp at s1
  go_wp2_with fail
  go_at_call 71
  refine (disc3_w v f _ ((hl.below hb1).below (bl_alloc (Below.refl _ _)))).mono ?_
  rintro e w2 ⟨rfl, hb2⟩
  have s2 := hb2.size
  try simp at s2
  have d20 : w2.cell? ⟨w1.heap.size, 0, none⟩ = some (.complex .f64 (f 0) (f 1)) := bkeep2 hb2 (by simp [go_sem])
  have d21 : w2.cell? ⟨w1.heap.size, 1, none⟩ = some (.float .f64 (f 2)) := bkeep2 hb2 (by simp [go_sem])
  have l0 : w1.heap.size < w2.heap.size := cell_lt d20
  go_wp2_with fail
  go_at_call 67
  refine (cs _).mono ?_
  rintro e w3 ⟨rfl, hb3⟩
  have s3 := hb3.size
  try simp at s3
  replace d20 := bkeep3 hb3 d20
  replace d21 := bkeep3 hb3 d21
  have d30 : w3.cell? ⟨w2.heap.size, 0, none⟩ = some (.complex .f64 (f 3) (f 4)) := bkeep2 hb3 (by simp [go_sem])
  have d31 : w3.cell? ⟨w2.heap.size, 1, none⟩ = some (.float .f64 (f 5)) := bkeep2 hb3 (by simp [go_sem])
  have l0 : w1.heap.size < w3.heap.size := cell_lt d20
  have l1 : w2.heap.size < w3.heap.size := cell_lt d30
  go_wp2_with fail
  go_at_call 68
  refine (cd _).mono ?_
  rintro e w4 ⟨rfl, hb4⟩
  have s4 := hb4.size
  try simp at s4
  replace d20 := bkeep3 hb4 d20
  replace d21 := bkeep3 hb4 d21
  replace d30 := bkeep3 hb4 d30
  replace d31 := bkeep3 hb4 d31
  have d40 : w4.cell? ⟨w3.heap.size, 0, none⟩ = some (.complex .f64 g1 g2) := bkeep2 hb4 (by simp [go_sem])
  have d41 : w4.cell? ⟨w3.heap.size, 1, none⟩ = some (.float .f64 g3) := bkeep2 hb4 (by simp [go_sem])
  have l0 : w1.heap.size < w4.heap.size := cell_lt d20
  have l1 : w2.heap.size < w4.heap.size := cell_lt d30
  have l2 : w3.heap.size < w4.heap.size := cell_lt d40
  go_wp2_with fail
  go_at_call 69
  refine (cm _).mono ?_
  rintro e w5 ⟨rfl, hb5⟩
  have s5 := hb5.size
  try simp at s5
  replace d20 := bkeep3 hb5 d20
  replace d21 := bkeep3 hb5 d21
  replace d30 := bkeep3 hb5 d30
  replace d31 := bkeep3 hb5 d31
  replace d40 := bkeep3 hb5 d40
  replace d41 := bkeep3 hb5 d41
  have d50 : w5.cell? ⟨w4.heap.size, 0, none⟩ = some (.complex .f64 h1 h2) := bkeep2 hb5 (by simp [go_sem])
  have d51 : w5.cell? ⟨w4.heap.size, 1, none⟩ = some (.float .f64 h3) := bkeep2 hb5 (by simp [go_sem])
  have l0 : w1.heap.size < w5.heap.size := cell_lt d20
  have l1 : w2.heap.size < w5.heap.size := cell_lt d30
  have l2 : w3.heap.size < w5.heap.size := cell_lt d40
  have l3 : w4.heap.size < w5.heap.size := cell_lt d50
  go_wp2_with fail
  go_at_call 70
  refine (fs _).mono ?_
  rintro e w6 ⟨rfl, hb6⟩
  have s6 := hb6.size
  try simp at s6
  replace d20 := bkeep3 hb6 d20
  replace d21 := bkeep3 hb6 d21
  replace d30 := bkeep3 hb6 d30
  replace d31 := bkeep3 hb6 d31
  replace d40 := bkeep3 hb6 d40
  replace d41 := bkeep3 hb6 d41
  replace d50 := bkeep3 hb6 d50
  replace d51 := bkeep3 hb6 d51
  have d60 : w6.cell? ⟨w5.heap.size, 0, none⟩ = some (.complex .f64 k1 k2) := bkeep2 hb6 (by simp [go_sem])
  have d61 : w6.cell? ⟨w5.heap.size, 1, none⟩ = some (.float .f64 k3) := bkeep2 hb6 (by simp [go_sem])
  have l0 : w1.heap.size < w6.heap.size := cell_lt d20
  have l1 : w2.heap.size < w6.heap.size := cell_lt d30
  have l2 : w3.heap.size < w6.heap.size := cell_lt d40
  have l3 : w4.heap.size < w6.heap.size := cell_lt d50
  have l4 : w5.heap.size < w6.heap.size := cell_lt d60
  go_wp2_with fail
  go_at_call 70
  refine (fd _).mono ?_
  rintro e w7 ⟨rfl, hb7⟩
  have s7 := hb7.size
  try simp at s7
  replace d20 := bkeep2 hb7 d20
  replace d21 := bkeep2 hb7 d21
  replace d30 := bkeep2 hb7 d30
  replace d31 := bkeep2 hb7 d31
  replace d40 := bkeep2 hb7 d40
  replace d41 := bkeep2 hb7 d41
  replace d50 := bkeep2 hb7 d50
  replace d51 := bkeep2 hb7 d51
  replace d60 := bkeep2 hb7 d60
  replace d61 := bkeep2 hb7 d61
  have l0 : w1.heap.size < w7.heap.size := cell_lt d20
  have l1 : w2.heap.size < w7.heap.size := cell_lt d30
  have l2 : w3.heap.size < w7.heap.size := cell_lt d40
  have l3 : w4.heap.size < w7.heap.size := cell_lt d50
  have l4 : w5.heap.size < w7.heap.size := cell_lt d60
  go_wp2_with fail
  go_at_call 70
  refine (fm _).mono ?_
  rintro e w8 ⟨rfl, hb8⟩
  have s8 := hb8.size
  try simp at s8
  replace d20 := bkeep2 hb8 d20
  replace d21 := bkeep2 hb8 d21
  replace d30 := bkeep2 hb8 d30
  replace d31 := bkeep2 hb8 d31
  replace d40 := bkeep2 hb8 d40
  replace d41 := bkeep2 hb8 d41
  replace d50 := bkeep2 hb8 d50
  replace d51 := bkeep2 hb8 d51
  replace d60 := bkeep2 hb8 d60
  replace d61 := bkeep2 hb8 d61
  have l0 : w1.heap.size < w8.heap.size := cell_lt d20
  have l1 : w2.heap.size < w8.heap.size := cell_lt d30
  have l2 : w3.heap.size < w8.heap.size := cell_lt d40
  have l3 : w4.heap.size < w8.heap.size := cell_lt d50
  have l4 : w5.heap.size < w8.heap.size := cell_lt d60
  go_wp2_with fail
  go_at_call 72
  refine (lo1 _).mono ?_
  rintro e w9 ⟨rfl, hb9⟩
  have s9 := hb9.size
  try simp at s9
  replace d20 := bkeep2 hb9 d20
  replace d21 := bkeep2 hb9 d21
  replace d30 := bkeep2 hb9 d30
  replace d31 := bkeep2 hb9 d31
  replace d40 := bkeep2 hb9 d40
  replace d41 := bkeep2 hb9 d41
  replace d50 := bkeep2 hb9 d50
  replace d51 := bkeep2 hb9 d51
  replace d60 := bkeep2 hb9 d60
  replace d61 := bkeep2 hb9 d61
  have l0 : w1.heap.size < w9.heap.size := cell_lt d20
  have l1 : w2.heap.size < w9.heap.size := cell_lt d30
  have l2 : w3.heap.size < w9.heap.size := cell_lt d40
  have l3 : w4.heap.size < w9.heap.size := cell_lt d50
  have l4 : w5.heap.size < w9.heap.size := cell_lt d60
  go_wp2_with fail
  go_at_call 72
  refine (lo2 _).mono ?_
  rintro e w10 ⟨rfl, hb10⟩
  have s10 := hb10.size
  try simp at s10
  replace d20 := bkeep2 hb10 d20
  replace d21 := bkeep2 hb10 d21
  replace d30 := bkeep2 hb10 d30
  replace d31 := bkeep2 hb10 d31
  replace d40 := bkeep2 hb10 d40
  replace d41 := bkeep2 hb10 d41
  replace d50 := bkeep2 hb10 d50
  replace d51 := bkeep2 hb10 d51
  replace d60 := bkeep2 hb10 d60
  replace d61 := bkeep2 hb10 d61
  have l0 : w1.heap.size < w10.heap.size := cell_lt d20
  have l1 : w2.heap.size < w10.heap.size := cell_lt d30
  have l2 : w3.heap.size < w10.heap.size := cell_lt d40
  have l3 : w4.heap.size < w10.heap.size := cell_lt d50
  have l4 : w5.heap.size < w10.heap.size := cell_lt d60
  go_wp2_with fail
  go_at_call 73
  refine (mo1 _).mono ?_
  rintro e w11 ⟨rfl, hb11⟩
  have s11 := hb11.size
  try simp at s11
  replace d20 := bkeep2 hb11 d20
  replace d21 := bkeep2 hb11 d21
  replace d30 := bkeep2 hb11 d30
  replace d31 := bkeep2 hb11 d31
  replace d40 := bkeep2 hb11 d40
  replace d41 := bkeep2 hb11 d41
  replace d50 := bkeep2 hb11 d50
  replace d51 := bkeep2 hb11 d51
  replace d60 := bkeep2 hb11 d60
  replace d61 := bkeep2 hb11 d61
  have l0 : w1.heap.size < w11.heap.size := cell_lt d20
  have l1 : w2.heap.size < w11.heap.size := cell_lt d30
  have l2 : w3.heap.size < w11.heap.size := cell_lt d40
  have l3 : w4.heap.size < w11.heap.size := cell_lt d50
  have l4 : w5.heap.size < w11.heap.size := cell_lt d60
  go_wp2_with fail
  go_at_call 73
  refine (mo2 _).mono ?_
  rintro e w12 ⟨rfl, hb12⟩
  have s12 := hb12.size
  try simp at s12
  replace d20 := bkeep2 hb12 d20
  replace d21 := bkeep2 hb12 d21
  replace d30 := bkeep2 hb12 d30
  replace d31 := bkeep2 hb12 d31
  replace d40 := bkeep2 hb12 d40
  replace d41 := bkeep2 hb12 d41
  replace d50 := bkeep2 hb12 d50
  replace d51 := bkeep2 hb12 d51
  replace d60 := bkeep2 hb12 d60
  replace d61 := bkeep2 hb12 d61
  have l0 : w1.heap.size < w12.heap.size := cell_lt d20
  have l1 : w2.heap.size < w12.heap.size := cell_lt d30
  have l2 : w3.heap.size < w12.heap.size := cell_lt d40
  have l3 : w4.heap.size < w12.heap.size := cell_lt d50
  have l4 : w5.heap.size < w12.heap.size := cell_lt d60
  go_wp2_with fail
  go_at_call 74
  refine (z1 _).mono ?_
  rintro e w13 ⟨rfl, hb13⟩
  have s13 := hb13.size
  try simp at s13
  replace d20 := bkeep2 hb13 d20
  replace d21 := bkeep2 hb13 d21
  replace d30 := bkeep2 hb13 d30
  replace d31 := bkeep2 hb13 d31
  replace d40 := bkeep2 hb13 d40
  replace d41 := bkeep2 hb13 d41
  replace d50 := bkeep2 hb13 d50
  replace d51 := bkeep2 hb13 d51
  replace d60 := bkeep2 hb13 d60
  replace d61 := bkeep2 hb13 d61
  have l0 : w1.heap.size < w13.heap.size := cell_lt d20
  have l1 : w2.heap.size < w13.heap.size := cell_lt d30
  have l2 : w3.heap.size < w13.heap.size := cell_lt d40
  have l3 : w4.heap.size < w13.heap.size := cell_lt d50
  have l4 : w5.heap.size < w13.heap.size := cell_lt d60
  go_wp2_with fail
  go_at_call 74
  refine (z2 _).mono ?_
  rintro e w14 ⟨rfl, hb14⟩
  have s14 := hb14.size
  try simp at s14
  replace d20 := bkeep2 hb14 d20
  replace d21 := bkeep2 hb14 d21
  replace d30 := bkeep2 hb14 d30
  replace d31 := bkeep2 hb14 d31
  replace d40 := bkeep2 hb14 d40
  replace d41 := bkeep2 hb14 d41
  replace d50 := bkeep2 hb14 d50
  replace d51 := bkeep2 hb14 d51
  replace d60 := bkeep2 hb14 d60
  replace d61 := bkeep2 hb14 d61
  have l0 : w1.heap.size < w14.heap.size := cell_lt d20
  have l1 : w2.heap.size < w14.heap.size := cell_lt d30
  have l2 : w3.heap.size < w14.heap.size := cell_lt d40
  have l3 : w4.heap.size < w14.heap.size := cell_lt d50
  have l4 : w5.heap.size < w14.heap.size := cell_lt d60
  go_wp2_with fail
  go_at_call 75
  refine (y1 _).mono ?_
  rintro e w15 ⟨rfl, hb15⟩
  have s15 := hb15.size
  try simp at s15
  replace d20 := bkeep2 hb15 d20
  replace d21 := bkeep2 hb15 d21
  replace d30 := bkeep2 hb15 d30
  replace d31 := bkeep2 hb15 d31
  replace d40 := bkeep2 hb15 d40
  replace d41 := bkeep2 hb15 d41
  replace d50 := bkeep2 hb15 d50
  replace d51 := bkeep2 hb15 d51
  replace d60 := bkeep2 hb15 d60
  replace d61 := bkeep2 hb15 d61
  have l0 : w1.heap.size < w15.heap.size := cell_lt d20
  have l1 : w2.heap.size < w15.heap.size := cell_lt d30
  have l2 : w3.heap.size < w15.heap.size := cell_lt d40
  have l3 : w4.heap.size < w15.heap.size := cell_lt d50
  have l4 : w5.heap.size < w15.heap.size := cell_lt d60
  go_wp2_with fail
  go_at_call 75
  refine (y2 _).mono ?_
  rintro e w16 ⟨rfl, hb16⟩
  have s16 := hb16.size
  try simp at s16
  replace d20 := bkeep2 hb16 d20
  replace d21 := bkeep2 hb16 d21
  replace d30 := bkeep2 hb16 d30
  replace d31 := bkeep2 hb16 d31
  replace d40 := bkeep2 hb16 d40
  replace d41 := bkeep2 hb16 d41
  replace d50 := bkeep2 hb16 d50
  replace d51 := bkeep2 hb16 d51
  replace d60 := bkeep2 hb16 d60
  replace d61 := bkeep2 hb16 d61
  have l0 : w1.heap.size < w16.heap.size := cell_lt d20
  have l1 : w2.heap.size < w16.heap.size := cell_lt d30
  have l2 : w3.heap.size < w16.heap.size := cell_lt d40
  have l3 : w4.heap.size < w16.heap.size := cell_lt d50
  have l4 : w5.heap.size < w16.heap.size := cell_lt d60
  go_wp2_with fail
  go_at_call 75
  refine (y3 _).mono ?_
  rintro e w17 ⟨rfl, hb17⟩
  have s17 := hb17.size
  try simp at s17
  replace d20 := bkeep2 hb17 d20
  replace d21 := bkeep2 hb17 d21
  replace d30 := bkeep2 hb17 d30
  replace d31 := bkeep2 hb17 d31
  replace d40 := bkeep2 hb17 d40
  replace d41 := bkeep2 hb17 d41
  replace d50 := bkeep2 hb17 d50
  replace d51 := bkeep2 hb17 d51
  replace d60 := bkeep2 hb17 d60
  replace d61 := bkeep2 hb17 d61
  have l0 : w1.heap.size < w17.heap.size := cell_lt d20
  have l1 : w2.heap.size < w17.heap.size := cell_lt d30
  have l2 : w3.heap.size < w17.heap.size := cell_lt d40
  have l3 : w4.heap.size < w17.heap.size := cell_lt d50
  have l4 : w5.heap.size < w17.heap.size := cell_lt d60
  go_wp2_with fail
  go_ret
  refine ⟨rfl, ?_⟩
  repeat (with_reducible first | exact Below.refl _ _ | assumption | refine Below.drew ?_ | refine bl_drewN ?_ _ | refine Below.setCell ?_ (by first | omega | (simp; done) | (simp; omega)) _ | refine Below.alloc ?_ (by first | omega | (simp; done) | (simp; omega)) _ | refine bl_next ?_ (by assumption) | refine bl_trans ?_ (by assumption) (by first | omega | (simp; done) | (simp; omega)))

end Go.Proofs.Ytacnclofbnafiaa
