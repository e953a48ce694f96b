import Derived.Test.YtacnclofbnafiaaB2
namespace Go.Proofs.Ytacnclofbnafiaa
open Go.RowKit Fl

set_option maxHeartbeats 4000000 in
theorem boxed_w (v : Value) (f : Nat → Nat) (p1 p2 p3 p4 q1 q2 q3 q4 r1 r2 r3 r4 : Nat)
    (cp : ∀ w, Calls Try.prog 58 #[.agg #[.float .f64 (f 0), .float .f64 (f 1), .float .f64 (f 2), .float .f64 (f 3)], .agg #[.float .f64 (f 4), .float .f64 (f 5), .float .f64 (f 6), .float .f64 (f 7)]] w fun e w' => e = .returned (.agg #[.float .f64 p1, .float .f64 p2, .float .f64 p3, .float .f64 p4]) ∧ Below w.heap.size w w')
    (dp : ∀ w, Calls Try.prog 59 #[.agg #[.float .f64 (f 0), .float .f64 (f 1), .float .f64 (f 2), .float .f64 (f 3)], .agg #[.float .f64 (f 4), .float .f64 (f 5), .float .f64 (f 6), .float .f64 (f 7)], .bool false] w fun e w' => e = .returned (.agg #[.float .f64 p1, .float .f64 p2, .float .f64 p3, .float .f64 p4]) ∧ Below w.heap.size w w')
    (mp : ∀ w, Calls Try.prog 60 #[.agg #[.float .f64 p1, .float .f64 p2, .float .f64 p3, .float .f64 p4], .agg #[.float .f64 p1, .float .f64 p2, .float .f64 p3, .float .f64 p4]] w fun e w' => e = .returned (.bool true) ∧ Below w.heap.size w w')
    (cq : ∀ w, Calls Try.prog 61 #[.agg #[.float .f64 (f 0), .float .f64 (f 1), .float .f64 (f 2), .float .f64 (f 3)], .agg #[.float .f64 (f 4), .float .f64 (f 5), .float .f64 (f 6), .float .f64 (f 7)]] w fun e w' => e = .returned (.agg #[.float .f64 q1, .float .f64 q2, .float .f64 q3, .float .f64 q4]) ∧ Below w.heap.size w w')
    (dq : ∀ w, Calls Try.prog 59 #[.agg #[.float .f64 (f 0), .float .f64 (f 1), .float .f64 (f 2), .float .f64 (f 3)], .agg #[.float .f64 (f 4), .float .f64 (f 5), .float .f64 (f 6), .float .f64 (f 7)], .bool true] w fun e w' => e = .returned (.agg #[.float .f64 q1, .float .f64 q2, .float .f64 q3, .float .f64 q4]) ∧ Below w.heap.size w w')
    (mq : ∀ w, Calls Try.prog 60 #[.agg #[.float .f64 q1, .float .f64 q2, .float .f64 q3, .float .f64 q4], .agg #[.float .f64 q1, .float .f64 q2, .float .f64 q3, .float .f64 q4]] w fun e w' => e = .returned (.bool true) ∧ Below w.heap.size w w')
    (cr : ∀ w, Calls Try.prog 62 #[.agg #[.float .f64 (f 0), .float .f64 (f 1), .float .f64 (f 2), .float .f64 (f 3)], .agg #[.float .f64 (f 4), .float .f64 (f 5), .float .f64 (f 6), .float .f64 (f 7)]] w fun e w' => e = .returned (.agg #[.float .f64 r1, .float .f64 r2, .float .f64 r3, .float .f64 r4]) ∧ Below w.heap.size w w')
    (dr : ∀ w, Calls Try.prog 63 #[.agg #[.float .f64 (f 0), .float .f64 (f 1), .float .f64 (f 2), .float .f64 (f 3)], .agg #[.float .f64 (f 4), .float .f64 (f 5), .float .f64 (f 6), .float .f64 (f 7)]] w fun e w' => e = .returned (.agg #[.float .f64 r1, .float .f64 r2, .float .f64 r3, .float .f64 r4]) ∧ Below w.heap.size w w')
    (mr : ∀ w, Calls Try.prog 60 #[.agg #[.float .f64 r1, .float .f64 r2, .float .f64 r3, .float .f64 r4], .agg #[.float .f64 r1, .float .f64 r2, .float .f64 r3, .float .f64 r4]] w fun e w' => e = .returned (.bool true) ∧ Below w.heap.size w w')
    (w : World) (hl : Lst w v f) :
    Calls Try.prog 11 #[v] w fun e w' => e = .returned (.bool true) ∧ Below w.heap.size w w' := by
  go_enter Try.func11, Try.ntmps11
  go_wp2_with fail
  go_at_call 57
  refine (box0_w v f _ hl).mono ?_
  rintro e w1 ⟨rfl, hb1⟩
  have s1 := hb1.size
  try simp at s1
  go_wp2_with fail
  go_at_call 57
  refine (box4_w v f _ ((hl.below hb1).below (bl_alloc (Below.refl _ _)))).mono ?_
  rintro e w2 ⟨rfl, hb2⟩
  have s2 := hb2.size
  try simp at s2
  have d20 : w2.cell? ⟨w1.heap.size, 0, none⟩ = some (.float .f64 (f 0)) := bkeep2 hb2 (by simp [go_sem])
  have d21 : w2.cell? ⟨w1.heap.size, 1, none⟩ = some (.float .f64 (f 1)) := bkeep2 hb2 (by simp [go_sem])
  have d22 : w2.cell? ⟨w1.heap.size, 2, none⟩ = some (.float .f64 (f 2)) := bkeep2 hb2 (by simp [go_sem])
  have d23 : w2.cell? ⟨w1.heap.size, 3, none⟩ = some (.float .f64 (f 3)) := bkeep2 hb2 (by simp [go_sem])
  have l0 : w1.heap.size < w2.heap.size := cell_lt d20
  go_wp2_with fail
  go_at_call 58
  refine (cp _).mono ?_
  rintro e w3 ⟨rfl, hb3⟩
  have s3 := hb3.size
  try simp at s3
  replace d20 := bkeep3 hb3 d20
  replace d21 := bkeep3 hb3 d21
  replace d22 := bkeep3 hb3 d22
  replace d23 := bkeep3 hb3 d23
  have d30 : w3.cell? ⟨w2.heap.size, 0, none⟩ = some (.float .f64 (f 4)) := bkeep2 hb3 (by simp [go_sem])
  have d31 : w3.cell? ⟨w2.heap.size, 1, none⟩ = some (.float .f64 (f 5)) := bkeep2 hb3 (by simp [go_sem])
  have d32 : w3.cell? ⟨w2.heap.size, 2, none⟩ = some (.float .f64 (f 6)) := bkeep2 hb3 (by simp [go_sem])
  have d33 : w3.cell? ⟨w2.heap.size, 3, none⟩ = some (.float .f64 (f 7)) := bkeep2 hb3 (by simp [go_sem])
  have l0 : w1.heap.size < w3.heap.size := cell_lt d20
  have l1 : w2.heap.size < w3.heap.size := cell_lt d30
  go_wp2_with fail
  go_at_call 59
  refine (dp _).mono ?_
  rintro e w4 ⟨rfl, hb4⟩
  have s4 := hb4.size
  try simp at s4
  replace d20 := bkeep3 hb4 d20
  replace d21 := bkeep3 hb4 d21
  replace d22 := bkeep3 hb4 d22
  replace d23 := bkeep3 hb4 d23
  replace d30 := bkeep3 hb4 d30
  replace d31 := bkeep3 hb4 d31
  replace d32 := bkeep3 hb4 d32
  replace d33 := bkeep3 hb4 d33
  have d40 : w4.cell? ⟨w3.heap.size, 0, none⟩ = some (.float .f64 p1) := bkeep2 hb4 (by simp [go_sem])
  have fd40 : w4.frozen? ⟨w3.heap.size, 0, none⟩ = false := bfroz2 hb4 (v := .float .f64 p1) (by simp [go_sem]) (by simp [go_sem])
  have d41 : w4.cell? ⟨w3.heap.size, 1, none⟩ = some (.float .f64 p2) := bkeep2 hb4 (by simp [go_sem])
  have fd41 : w4.frozen? ⟨w3.heap.size, 1, none⟩ = false := bfroz2 hb4 (v := .float .f64 p2) (by simp [go_sem]) (by simp [go_sem])
  have d42 : w4.cell? ⟨w3.heap.size, 2, none⟩ = some (.float .f64 p3) := bkeep2 hb4 (by simp [go_sem])
  have fd42 : w4.frozen? ⟨w3.heap.size, 2, none⟩ = false := bfroz2 hb4 (v := .float .f64 p3) (by simp [go_sem]) (by simp [go_sem])
  have d43 : w4.cell? ⟨w3.heap.size, 3, none⟩ = some (.float .f64 p4) := bkeep2 hb4 (by simp [go_sem])
  have fd43 : w4.frozen? ⟨w3.heap.size, 3, none⟩ = false := bfroz2 hb4 (v := .float .f64 p4) (by simp [go_sem]) (by simp [go_sem])
  have l0 : w1.heap.size < w4.heap.size := cell_lt d20
  have l1 : w2.heap.size < w4.heap.size := cell_lt d30
  have l2 : w3.heap.size < w4.heap.size := cell_lt d40
  go_wp2_with fail
  go_at_call 60
  refine (mp _).mono ?_
  rintro e w5 ⟨rfl, hb5⟩
  have s5 := hb5.size
  try simp at s5
  replace fd40 := bfroz3 hb5 d40 fd40
  replace fd41 := bfroz3 hb5 d41 fd41
  replace fd42 := bfroz3 hb5 d42 fd42
  replace fd43 := bfroz3 hb5 d43 fd43
  replace d20 := bkeep3 hb5 d20
  replace d21 := bkeep3 hb5 d21
  replace d22 := bkeep3 hb5 d22
  replace d23 := bkeep3 hb5 d23
  replace d30 := bkeep3 hb5 d30
  replace d31 := bkeep3 hb5 d31
  replace d32 := bkeep3 hb5 d32
  replace d33 := bkeep3 hb5 d33
  replace d40 := bkeep3 hb5 d40
  replace d41 := bkeep3 hb5 d41
  replace d42 := bkeep3 hb5 d42
  replace d43 := bkeep3 hb5 d43
  have d50 : w5.cell? ⟨w4.heap.size, 0, none⟩ = some (.float .f64 p1) := bkeep2 hb5 (by simp [go_sem])
  have fd50 : w5.frozen? ⟨w4.heap.size, 0, none⟩ = false := bfroz2 hb5 (v := .float .f64 p1) (by simp [go_sem]) (by simp [go_sem])
  have d51 : w5.cell? ⟨w4.heap.size, 1, none⟩ = some (.float .f64 p2) := bkeep2 hb5 (by simp [go_sem])
  have fd51 : w5.frozen? ⟨w4.heap.size, 1, none⟩ = false := bfroz2 hb5 (v := .float .f64 p2) (by simp [go_sem]) (by simp [go_sem])
  have d52 : w5.cell? ⟨w4.heap.size, 2, none⟩ = some (.float .f64 p3) := bkeep2 hb5 (by simp [go_sem])
  have fd52 : w5.frozen? ⟨w4.heap.size, 2, none⟩ = false := bfroz2 hb5 (v := .float .f64 p3) (by simp [go_sem]) (by simp [go_sem])
  have d53 : w5.cell? ⟨w4.heap.size, 3, none⟩ = some (.float .f64 p4) := bkeep2 hb5 (by simp [go_sem])
  have fd53 : w5.frozen? ⟨w4.heap.size, 3, none⟩ = false := bfroz2 hb5 (v := .float .f64 p4) (by simp [go_sem]) (by simp [go_sem])
  have l0 : w1.heap.size < w5.heap.size := cell_lt d20
  have l1 : w2.heap.size < w5.heap.size := cell_lt d30
  have l2 : w3.heap.size < w5.heap.size := cell_lt d40
  have l3 : w4.heap.size < w5.heap.size := cell_lt d50
  go_wp2_with fail
  go_at_call 61
  refine (cq _).mono ?_
  rintro e w6 ⟨rfl, hb6⟩
  have s6 := hb6.size
  try simp at s6
  replace fd40 := bfroz2 hb6 d40 fd40
  replace fd41 := bfroz2 hb6 d41 fd41
  replace fd42 := bfroz2 hb6 d42 fd42
  replace fd43 := bfroz2 hb6 d43 fd43
  replace fd50 := bfroz2 hb6 d50 fd50
  replace fd51 := bfroz2 hb6 d51 fd51
  replace fd52 := bfroz2 hb6 d52 fd52
  replace fd53 := bfroz2 hb6 d53 fd53
  replace d20 := bkeep2 hb6 d20
  replace d21 := bkeep2 hb6 d21
  replace d22 := bkeep2 hb6 d22
  replace d23 := bkeep2 hb6 d23
  replace d30 := bkeep2 hb6 d30
  replace d31 := bkeep2 hb6 d31
  replace d32 := bkeep2 hb6 d32
  replace d33 := bkeep2 hb6 d33
  replace d40 := bkeep2 hb6 d40
  replace d41 := bkeep2 hb6 d41
  replace d42 := bkeep2 hb6 d42
  replace d43 := bkeep2 hb6 d43
  replace d50 := bkeep2 hb6 d50
  replace d51 := bkeep2 hb6 d51
  replace d52 := bkeep2 hb6 d52
  replace d53 := bkeep2 hb6 d53
  have l0 : w1.heap.size < w6.heap.size := cell_lt d20
  have l1 : w2.heap.size < w6.heap.size := cell_lt d30
  have l2 : w3.heap.size < w6.heap.size := cell_lt d40
  have l3 : w4.heap.size < w6.heap.size := cell_lt d50
  go_wp2_with fail
  go_at_call 59
  refine (dq _).mono ?_
  rintro e w7 ⟨rfl, hb7⟩
  have s7 := hb7.size
  try simp at s7
  have nfd40 : w7.frozen? ⟨w3.heap.size, 0, none⟩ = false := bfroz2 hb7 (v := .float .f64 q1) (by simp [go_sem, *]) (by simp [go_sem, *])
  have nfd41 : w7.frozen? ⟨w3.heap.size, 1, none⟩ = false := bfroz2 hb7 (v := .float .f64 q2) (by simp [go_sem, *]) (by simp [go_sem, *])
  have nfd42 : w7.frozen? ⟨w3.heap.size, 2, none⟩ = false := bfroz2 hb7 (v := .float .f64 q3) (by simp [go_sem, *]) (by simp [go_sem, *])
  have nfd43 : w7.frozen? ⟨w3.heap.size, 3, none⟩ = false := bfroz2 hb7 (v := .float .f64 q4) (by simp [go_sem, *]) (by simp [go_sem, *])
  have nfd50 : w7.frozen? ⟨w4.heap.size, 0, none⟩ = false := bfroz2 hb7 (v := .float .f64 p1) (by simp [go_sem, *]) (by simp [go_sem, *])
  have nfd51 : w7.frozen? ⟨w4.heap.size, 1, none⟩ = false := bfroz2 hb7 (v := .float .f64 p2) (by simp [go_sem, *]) (by simp [go_sem, *])
  have nfd52 : w7.frozen? ⟨w4.heap.size, 2, none⟩ = false := bfroz2 hb7 (v := .float .f64 p3) (by simp [go_sem, *]) (by simp [go_sem, *])
  have nfd53 : w7.frozen? ⟨w4.heap.size, 3, none⟩ = false := bfroz2 hb7 (v := .float .f64 p4) (by simp [go_sem, *]) (by simp [go_sem, *])
  have nd20 : w7.cell? ⟨w1.heap.size, 0, none⟩ = some (.float .f64 (f 0)) := bkeep2 hb7 (by rw [set_other (by first | omega | (simp; done) | (simp; omega)), set_other (by first | omega | (simp; done) | (simp; omega)), set_other (by first | omega | (simp; done) | (simp; omega)), set_other (by first | omega | (simp; done) | (simp; omega))]; exact d20)
  have nd21 : w7.cell? ⟨w1.heap.size, 1, none⟩ = some (.float .f64 (f 1)) := bkeep2 hb7 (by rw [set_other (by first | omega | (simp; done) | (simp; omega)), set_other (by first | omega | (simp; done) | (simp; omega)), set_other (by first | omega | (simp; done) | (simp; omega)), set_other (by first | omega | (simp; done) | (simp; omega))]; exact d21)
  have nd22 : w7.cell? ⟨w1.heap.size, 2, none⟩ = some (.float .f64 (f 2)) := bkeep2 hb7 (by rw [set_other (by first | omega | (simp; done) | (simp; omega)), set_other (by first | omega | (simp; done) | (simp; omega)), set_other (by first | omega | (simp; done) | (simp; omega)), set_other (by first | omega | (simp; done) | (simp; omega))]; exact d22)
  have nd23 : w7.cell? ⟨w1.heap.size, 3, none⟩ = some (.float .f64 (f 3)) := bkeep2 hb7 (by rw [set_other (by first | omega | (simp; done) | (simp; omega)), set_other (by first | omega | (simp; done) | (simp; omega)), set_other (by first | omega | (simp; done) | (simp; omega)), set_other (by first | omega | (simp; done) | (simp; omega))]; exact d23)
  have nd30 : w7.cell? ⟨w2.heap.size, 0, none⟩ = some (.float .f64 (f 4)) := bkeep2 hb7 (by rw [set_other (by first | omega | (simp; done) | (simp; omega)), set_other (by first | omega | (simp; done) | (simp; omega)), set_other (by first | omega | (simp; done) | (simp; omega)), set_other (by first | omega | (simp; done) | (simp; omega))]; exact d30)
  have nd31 : w7.cell? ⟨w2.heap.size, 1, none⟩ = some (.float .f64 (f 5)) := bkeep2 hb7 (by rw [set_other (by first | omega | (simp; done) | (simp; omega)), set_other (by first | omega | (simp; done) | (simp; omega)), set_other (by first | omega | (simp; done) | (simp; omega)), set_other (by first | omega | (simp; done) | (simp; omega))]; exact d31)
  have nd32 : w7.cell? ⟨w2.heap.size, 2, none⟩ = some (.float .f64 (f 6)) := bkeep2 hb7 (by rw [set_other (by first | omega | (simp; done) | (simp; omega)), set_other (by first | omega | (simp; done) | (simp; omega)), set_other (by first | omega | (simp; done) | (simp; omega)), set_other (by first | omega | (simp; done) | (simp; omega))]; exact d32)
  have nd33 : w7.cell? ⟨w2.heap.size, 3, none⟩ = some (.float .f64 (f 7)) := bkeep2 hb7 (by rw [set_other (by first | omega | (simp; done) | (simp; omega)), set_other (by first | omega | (simp; done) | (simp; omega)), set_other (by first | omega | (simp; done) | (simp; omega)), set_other (by first | omega | (simp; done) | (simp; omega))]; exact d33)
  have nd40 : w7.cell? ⟨w3.heap.size, 0, none⟩ = some (.float .f64 q1) := bkeep2 hb7 (by simp [go_sem, *])
  have nd41 : w7.cell? ⟨w3.heap.size, 1, none⟩ = some (.float .f64 q2) := bkeep2 hb7 (by simp [go_sem, *])
  have nd42 : w7.cell? ⟨w3.heap.size, 2, none⟩ = some (.float .f64 q3) := bkeep2 hb7 (by simp [go_sem, *])
  have nd43 : w7.cell? ⟨w3.heap.size, 3, none⟩ = some (.float .f64 q4) := bkeep2 hb7 (by simp [go_sem, *])
  have nd50 : w7.cell? ⟨w4.heap.size, 0, none⟩ = some (.float .f64 p1) := bkeep2 hb7 (by rw [set_other (by first | omega | (simp; done) | (simp; omega)), set_other (by first | omega | (simp; done) | (simp; omega)), set_other (by first | omega | (simp; done) | (simp; omega)), set_other (by first | omega | (simp; done) | (simp; omega))]; exact d50)
  have nd51 : w7.cell? ⟨w4.heap.size, 1, none⟩ = some (.float .f64 p2) := bkeep2 hb7 (by rw [set_other (by first | omega | (simp; done) | (simp; omega)), set_other (by first | omega | (simp; done) | (simp; omega)), set_other (by first | omega | (simp; done) | (simp; omega)), set_other (by first | omega | (simp; done) | (simp; omega))]; exact d51)
  have nd52 : w7.cell? ⟨w4.heap.size, 2, none⟩ = some (.float .f64 p3) := bkeep2 hb7 (by rw [set_other (by first | omega | (simp; done) | (simp; omega)), set_other (by first | omega | (simp; done) | (simp; omega)), set_other (by first | omega | (simp; done) | (simp; omega)), set_other (by first | omega | (simp; done) | (simp; omega))]; exact d52)
  have nd53 : w7.cell? ⟨w4.heap.size, 3, none⟩ = some (.float .f64 p4) := bkeep2 hb7 (by rw [set_other (by first | omega | (simp; done) | (simp; omega)), set_other (by first | omega | (simp; done) | (simp; omega)), set_other (by first | omega | (simp; done) | (simp; omega)), set_other (by first | omega | (simp; done) | (simp; omega))]; exact d53)
  clear d20 d21 d22 d23 d30 d31 d32 d33 d40 fd40 d41 fd41 d42 fd42 d43 fd43 d50 fd50 d51 fd51 d52 fd52 d53 fd53
  have l0 : w1.heap.size < w7.heap.size := cell_lt nd20
  have l1 : w2.heap.size < w7.heap.size := cell_lt nd30
  have l2 : w3.heap.size < w7.heap.size := cell_lt nd40
  have l3 : w4.heap.size < w7.heap.size := cell_lt nd50
  go_wp2_with fail
  go_at_call 60
  refine (mq _).mono ?_
  rintro e w8 ⟨rfl, hb8⟩
  have s8 := hb8.size
  try simp at s8
  have nnfd40 : w8.frozen? ⟨w3.heap.size, 0, none⟩ = false := bfroz2 hb8 (v := .float .f64 q1) (by simp [go_sem, *]) (by simp [go_sem, *])
  have nnfd41 : w8.frozen? ⟨w3.heap.size, 1, none⟩ = false := bfroz2 hb8 (v := .float .f64 q2) (by simp [go_sem, *]) (by simp [go_sem, *])
  have nnfd42 : w8.frozen? ⟨w3.heap.size, 2, none⟩ = false := bfroz2 hb8 (v := .float .f64 q3) (by simp [go_sem, *]) (by simp [go_sem, *])
  have nnfd43 : w8.frozen? ⟨w3.heap.size, 3, none⟩ = false := bfroz2 hb8 (v := .float .f64 q4) (by simp [go_sem, *]) (by simp [go_sem, *])
  have nnfd50 : w8.frozen? ⟨w4.heap.size, 0, none⟩ = false := bfroz2 hb8 (v := .float .f64 q1) (by simp [go_sem, *]) (by simp [go_sem, *])
  have nnfd51 : w8.frozen? ⟨w4.heap.size, 1, none⟩ = false := bfroz2 hb8 (v := .float .f64 q2) (by simp [go_sem, *]) (by simp [go_sem, *])
  have nnfd52 : w8.frozen? ⟨w4.heap.size, 2, none⟩ = false := bfroz2 hb8 (v := .float .f64 q3) (by simp [go_sem, *]) (by simp [go_sem, *])
  have nnfd53 : w8.frozen? ⟨w4.heap.size, 3, none⟩ = false := bfroz2 hb8 (v := .float .f64 q4) (by simp [go_sem, *]) (by simp [go_sem, *])
  have nnd20 : w8.cell? ⟨w1.heap.size, 0, none⟩ = some (.float .f64 (f 0)) := bkeep2 hb8 (by rw [set_other (by first | omega | (simp; done) | (simp; omega)), set_other (by first | omega | (simp; done) | (simp; omega)), set_other (by first | omega | (simp; done) | (simp; omega)), set_other (by first | omega | (simp; done) | (simp; omega))]; exact nd20)
  have nnd21 : w8.cell? ⟨w1.heap.size, 1, none⟩ = some (.float .f64 (f 1)) := bkeep2 hb8 (by rw [set_other (by first | omega | (simp; done) | (simp; omega)), set_other (by first | omega | (simp; done) | (simp; omega)), set_other (by first | omega | (simp; done) | (simp; omega)), set_other (by first | omega | (simp; done) | (simp; omega))]; exact nd21)
  have nnd22 : w8.cell? ⟨w1.heap.size, 2, none⟩ = some (.float .f64 (f 2)) := bkeep2 hb8 (by rw [set_other (by first | omega | (simp; done) | (simp; omega)), set_other (by first | omega | (simp; done) | (simp; omega)), set_other (by first | omega | (simp; done) | (simp; omega)), set_other (by first | omega | (simp; done) | (simp; omega))]; exact nd22)
  have nnd23 : w8.cell? ⟨w1.heap.size, 3, none⟩ = some (.float .f64 (f 3)) := bkeep2 hb8 (by rw [set_other (by first | omega | (simp; done) | (simp; omega)), set_other (by first | omega | (simp; done) | (simp; omega)), set_other (by first | omega | (simp; done) | (simp; omega)), set_other (by first | omega | (simp; done) | (simp; omega))]; exact nd23)
  have nnd30 : w8.cell? ⟨w2.heap.size, 0, none⟩ = some (.float .f64 (f 4)) := bkeep2 hb8 (by rw [set_other (by first | omega | (simp; done) | (simp; omega)), set_other (by first | omega | (simp; done) | (simp; omega)), set_other (by first | omega | (simp; done) | (simp; omega)), set_other (by first | omega | (simp; done) | (simp; omega))]; exact nd30)
  have nnd31 : w8.cell? ⟨w2.heap.size, 1, none⟩ = some (.float .f64 (f 5)) := bkeep2 hb8 (by rw [set_other (by first | omega | (simp; done) | (simp; omega)), set_other (by first | omega | (simp; done) | (simp; omega)), set_other (by first | omega | (simp; done) | (simp; omega)), set_other (by first | omega | (simp; done) | (simp; omega))]; exact nd31)
  have nnd32 : w8.cell? ⟨w2.heap.size, 2, none⟩ = some (.float .f64 (f 6)) := bkeep2 hb8 (by rw [set_other (by first | omega | (simp; done) | (simp; omega)), set_other (by first | omega | (simp; done) | (simp; omega)), set_other (by first | omega | (simp; done) | (simp; omega)), set_other (by first | omega | (simp; done) | (simp; omega))]; exact nd32)
  have nnd33 : w8.cell? ⟨w2.heap.size, 3, none⟩ = some (.float .f64 (f 7)) := bkeep2 hb8 (by rw [set_other (by first | omega | (simp; done) | (simp; omega)), set_other (by first | omega | (simp; done) | (simp; omega)), set_other (by first | omega | (simp; done) | (simp; omega)), set_other (by first | omega | (simp; done) | (simp; omega))]; exact nd33)
  have nnd40 : w8.cell? ⟨w3.heap.size, 0, none⟩ = some (.float .f64 q1) := bkeep2 hb8 (by rw [set_other (by first | omega | (simp; done) | (simp; omega)), set_other (by first | omega | (simp; done) | (simp; omega)), set_other (by first | omega | (simp; done) | (simp; omega)), set_other (by first | omega | (simp; done) | (simp; omega))]; exact nd40)
  have nnd41 : w8.cell? ⟨w3.heap.size, 1, none⟩ = some (.float .f64 q2) := bkeep2 hb8 (by rw [set_other (by first | omega | (simp; done) | (simp; omega)), set_other (by first | omega | (simp; done) | (simp; omega)), set_other (by first | omega | (simp; done) | (simp; omega)), set_other (by first | omega | (simp; done) | (simp; omega))]; exact nd41)
  have nnd42 : w8.cell? ⟨w3.heap.size, 2, none⟩ = some (.float .f64 q3) := bkeep2 hb8 (by rw [set_other (by first | omega | (simp; done) | (simp; omega)), set_other (by first | omega | (simp; done) | (simp; omega)), set_other (by first | omega | (simp; done) | (simp; omega)), set_other (by first | omega | (simp; done) | (simp; omega))]; exact nd42)
  have nnd43 : w8.cell? ⟨w3.heap.size, 3, none⟩ = some (.float .f64 q4) := bkeep2 hb8 (by rw [set_other (by first | omega | (simp; done) | (simp; omega)), set_other (by first | omega | (simp; done) | (simp; omega)), set_other (by first | omega | (simp; done) | (simp; omega)), set_other (by first | omega | (simp; done) | (simp; omega))]; exact nd43)
  have nnd50 : w8.cell? ⟨w4.heap.size, 0, none⟩ = some (.float .f64 q1) := bkeep2 hb8 (by simp [go_sem, *])
  have nnd51 : w8.cell? ⟨w4.heap.size, 1, none⟩ = some (.float .f64 q2) := bkeep2 hb8 (by simp [go_sem, *])
  have nnd52 : w8.cell? ⟨w4.heap.size, 2, none⟩ = some (.float .f64 q3) := bkeep2 hb8 (by simp [go_sem, *])
  have nnd53 : w8.cell? ⟨w4.heap.size, 3, none⟩ = some (.float .f64 q4) := bkeep2 hb8 (by simp [go_sem, *])
  clear nd20 nd21 nd22 nd23 nd30 nd31 nd32 nd33 nd40 nfd40 nd41 nfd41 nd42 nfd42 nd43 nfd43 nd50 nfd50 nd51 nfd51 nd52 nfd52 nd53 nfd53
  have l0 : w1.heap.size < w8.heap.size := cell_lt nnd20
  have l1 : w2.heap.size < w8.heap.size := cell_lt nnd30
  have l2 : w3.heap.size < w8.heap.size := cell_lt nnd40
  have l3 : w4.heap.size < w8.heap.size := cell_lt nnd50
  go_wp2_with fail
  go_at_call 62
  refine (cr _).mono ?_
  rintro e w9 ⟨rfl, hb9⟩
  have s9 := hb9.size
  try simp at s9
  replace nnfd40 := bfroz2 hb9 nnd40 nnfd40
  replace nnfd41 := bfroz2 hb9 nnd41 nnfd41
  replace nnfd42 := bfroz2 hb9 nnd42 nnfd42
  replace nnfd43 := bfroz2 hb9 nnd43 nnfd43
  replace nnfd50 := bfroz2 hb9 nnd50 nnfd50
  replace nnfd51 := bfroz2 hb9 nnd51 nnfd51
  replace nnfd52 := bfroz2 hb9 nnd52 nnfd52
  replace nnfd53 := bfroz2 hb9 nnd53 nnfd53
  replace nnd20 := bkeep2 hb9 nnd20
  replace nnd21 := bkeep2 hb9 nnd21
  replace nnd22 := bkeep2 hb9 nnd22
  replace nnd23 := bkeep2 hb9 nnd23
  replace nnd30 := bkeep2 hb9 nnd30
  replace nnd31 := bkeep2 hb9 nnd31
  replace nnd32 := bkeep2 hb9 nnd32
  replace nnd33 := bkeep2 hb9 nnd33
  replace nnd40 := bkeep2 hb9 nnd40
  replace nnd41 := bkeep2 hb9 nnd41
  replace nnd42 := bkeep2 hb9 nnd42
  replace nnd43 := bkeep2 hb9 nnd43
  replace nnd50 := bkeep2 hb9 nnd50
  replace nnd51 := bkeep2 hb9 nnd51
  replace nnd52 := bkeep2 hb9 nnd52
  replace nnd53 := bkeep2 hb9 nnd53
  have l0 : w1.heap.size < w9.heap.size := cell_lt nnd20
  have l1 : w2.heap.size < w9.heap.size := cell_lt nnd30
  have l2 : w3.heap.size < w9.heap.size := cell_lt nnd40
  have l3 : w4.heap.size < w9.heap.size := cell_lt nnd50
  go_wp2_with fail
  go_at_call 63
  refine (dr _).mono ?_
  rintro e w10 ⟨rfl, hb10⟩
  have s10 := hb10.size
  try simp at s10
  have nnnfd40 : w10.frozen? ⟨w3.heap.size, 0, none⟩ = false := bfroz2 hb10 (v := .float .f64 r1) (by simp [go_sem, *]) (by simp [go_sem, *])
  have nnnfd41 : w10.frozen? ⟨w3.heap.size, 1, none⟩ = false := bfroz2 hb10 (v := .float .f64 r2) (by simp [go_sem, *]) (by simp [go_sem, *])
  have nnnfd42 : w10.frozen? ⟨w3.heap.size, 2, none⟩ = false := bfroz2 hb10 (v := .float .f64 r3) (by simp [go_sem, *]) (by simp [go_sem, *])
  have nnnfd43 : w10.frozen? ⟨w3.heap.size, 3, none⟩ = false := bfroz2 hb10 (v := .float .f64 r4) (by simp [go_sem, *]) (by simp [go_sem, *])
  have nnnfd50 : w10.frozen? ⟨w4.heap.size, 0, none⟩ = false := bfroz2 hb10 (v := .float .f64 q1) (by simp [go_sem, *]) (by simp [go_sem, *])
  have nnnfd51 : w10.frozen? ⟨w4.heap.size, 1, none⟩ = false := bfroz2 hb10 (v := .float .f64 q2) (by simp [go_sem, *]) (by simp [go_sem, *])
  have nnnfd52 : w10.frozen? ⟨w4.heap.size, 2, none⟩ = false := bfroz2 hb10 (v := .float .f64 q3) (by simp [go_sem, *]) (by simp [go_sem, *])
  have nnnfd53 : w10.frozen? ⟨w4.heap.size, 3, none⟩ = false := bfroz2 hb10 (v := .float .f64 q4) (by simp [go_sem, *]) (by simp [go_sem, *])
  have nnnd20 : w10.cell? ⟨w1.heap.size, 0, none⟩ = some (.float .f64 (f 0)) := bkeep2 hb10 (by rw [set_other (by first | omega | (simp; done) | (simp; omega)), set_other (by first | omega | (simp; done) | (simp; omega)), set_other (by first | omega | (simp; done) | (simp; omega)), set_other (by first | omega | (simp; done) | (simp; omega))]; exact nnd20)
  have nnnd21 : w10.cell? ⟨w1.heap.size, 1, none⟩ = some (.float .f64 (f 1)) := bkeep2 hb10 (by rw [set_other (by first | omega | (simp; done) | (simp; omega)), set_other (by first | omega | (simp; done) | (simp; omega)), set_other (by first | omega | (simp; done) | (simp; omega)), set_other (by first | omega | (simp; done) | (simp; omega))]; exact nnd21)
  have nnnd22 : w10.cell? ⟨w1.heap.size, 2, none⟩ = some (.float .f64 (f 2)) := bkeep2 hb10 (by rw [set_other (by first | omega | (simp; done) | (simp; omega)), set_other (by first | omega | (simp; done) | (simp; omega)), set_other (by first | omega | (simp; done) | (simp; omega)), set_other (by first | omega | (simp; done) | (simp; omega))]; exact nnd22)
  have nnnd23 : w10.cell? ⟨w1.heap.size, 3, none⟩ = some (.float .f64 (f 3)) := bkeep2 hb10 (by rw [set_other (by first | omega | (simp; done) | (simp; omega)), set_other (by first | omega | (simp; done) | (simp; omega)), set_other (by first | omega | (simp; done) | (simp; omega)), set_other (by first | omega | (simp; done) | (simp; omega))]; exact nnd23)
  have nnnd30 : w10.cell? ⟨w2.heap.size, 0, none⟩ = some (.float .f64 (f 4)) := bkeep2 hb10 (by rw [set_other (by first | omega | (simp; done) | (simp; omega)), set_other (by first | omega | (simp; done) | (simp; omega)), set_other (by first | omega | (simp; done) | (simp; omega)), set_other (by first | omega | (simp; done) | (simp; omega))]; exact nnd30)
  have nnnd31 : w10.cell? ⟨w2.heap.size, 1, none⟩ = some (.float .f64 (f 5)) := bkeep2 hb10 (by rw [set_other (by first | omega | (simp; done) | (simp; omega)), set_other (by first | omega | (simp; done) | (simp; omega)), set_other (by first | omega | (simp; done) | (simp; omega)), set_other (by first | omega | (simp; done) | (simp; omega))]; exact nnd31)
  have nnnd32 : w10.cell? ⟨w2.heap.size, 2, none⟩ = some (.float .f64 (f 6)) := bkeep2 hb10 (by rw [set_other (by first | omega | (simp; done) | (simp; omega)), set_other (by first | omega | (simp; done) | (simp; omega)), set_other (by first | omega | (simp; done) | (simp; omega)), set_other (by first | omega | (simp; done) | (simp; omega))]; exact nnd32)
  have nnnd33 : w10.cell? ⟨w2.heap.size, 3, none⟩ = some (.float .f64 (f 7)) := bkeep2 hb10 (by rw [set_other (by first | omega | (simp; done) | (simp; omega)), set_other (by first | omega | (simp; done) | (simp; omega)), set_other (by first | omega | (simp; done) | (simp; omega)), set_other (by first | omega | (simp; done) | (simp; omega))]; exact nnd33)
  have nnnd40 : w10.cell? ⟨w3.heap.size, 0, none⟩ = some (.float .f64 r1) := bkeep2 hb10 (by simp [go_sem, *])
  have nnnd41 : w10.cell? ⟨w3.heap.size, 1, none⟩ = some (.float .f64 r2) := bkeep2 hb10 (by simp [go_sem, *])
  have nnnd42 : w10.cell? ⟨w3.heap.size, 2, none⟩ = some (.float .f64 r3) := bkeep2 hb10 (by simp [go_sem, *])
  have nnnd43 : w10.cell? ⟨w3.heap.size, 3, none⟩ = some (.float .f64 r4) := bkeep2 hb10 (by simp [go_sem, *])
  have nnnd50 : w10.cell? ⟨w4.heap.size, 0, none⟩ = some (.float .f64 q1) := bkeep2 hb10 (by rw [set_other (by first | omega | (simp; done) | (simp; omega)), set_other (by first | omega | (simp; done) | (simp; omega)), set_other (by first | omega | (simp; done) | (simp; omega)), set_other (by first | omega | (simp; done) | (simp; omega))]; exact nnd50)
  have nnnd51 : w10.cell? ⟨w4.heap.size, 1, none⟩ = some (.float .f64 q2) := bkeep2 hb10 (by rw [set_other (by first | omega | (simp; done) | (simp; omega)), set_other (by first | omega | (simp; done) | (simp; omega)), set_other (by first | omega | (simp; done) | (simp; omega)), set_other (by first | omega | (simp; done) | (simp; omega))]; exact nnd51)
  have nnnd52 : w10.cell? ⟨w4.heap.size, 2, none⟩ = some (.float .f64 q3) := bkeep2 hb10 (by rw [set_other (by first | omega | (simp; done) | (simp; omega)), set_other (by first | omega | (simp; done) | (simp; omega)), set_other (by first | omega | (simp; done) | (simp; omega)), set_other (by first | omega | (simp; done) | (simp; omega))]; exact nnd52)
  have nnnd53 : w10.cell? ⟨w4.heap.size, 3, none⟩ = some (.float .f64 q4) := bkeep2 hb10 (by rw [set_other (by first | omega | (simp; done) | (simp; omega)), set_other (by first | omega | (simp; done) | (simp; omega)), set_other (by first | omega | (simp; done) | (simp; omega)), set_other (by first | omega | (simp; done) | (simp; omega))]; exact nnd53)
  clear nnd20 nnd21 nnd22 nnd23 nnd30 nnd31 nnd32 nnd33 nnd40 nnfd40 nnd41 nnfd41 nnd42 nnfd42 nnd43 nnfd43 nnd50 nnfd50 nnd51 nnfd51 nnd52 nnfd52 nnd53 nnfd53
  have l0 : w1.heap.size < w10.heap.size := cell_lt nnnd20
  have l1 : w2.heap.size < w10.heap.size := cell_lt nnnd30
  have l2 : w3.heap.size < w10.heap.size := cell_lt nnnd40
  have l3 : w4.heap.size < w10.heap.size := cell_lt nnnd50
  go_wp2_with fail
  go_at_call 60
  refine (mr _).mono ?_
  rintro e w11 ⟨rfl, hb11⟩
  have s11 := hb11.size
  try simp at s11
  have nnnnfd40 : w11.frozen? ⟨w3.heap.size, 0, none⟩ = false := bfroz2 hb11 (v := .float .f64 r1) (by simp [go_sem, *]) (by simp [go_sem, *])
  have nnnnfd41 : w11.frozen? ⟨w3.heap.size, 1, none⟩ = false := bfroz2 hb11 (v := .float .f64 r2) (by simp [go_sem, *]) (by simp [go_sem, *])
  have nnnnfd42 : w11.frozen? ⟨w3.heap.size, 2, none⟩ = false := bfroz2 hb11 (v := .float .f64 r3) (by simp [go_sem, *]) (by simp [go_sem, *])
  have nnnnfd43 : w11.frozen? ⟨w3.heap.size, 3, none⟩ = false := bfroz2 hb11 (v := .float .f64 r4) (by simp [go_sem, *]) (by simp [go_sem, *])
  have nnnnfd50 : w11.frozen? ⟨w4.heap.size, 0, none⟩ = false := bfroz2 hb11 (v := .float .f64 r1) (by simp [go_sem, *]) (by simp [go_sem, *])
  have nnnnfd51 : w11.frozen? ⟨w4.heap.size, 1, none⟩ = false := bfroz2 hb11 (v := .float .f64 r2) (by simp [go_sem, *]) (by simp [go_sem, *])
  have nnnnfd52 : w11.frozen? ⟨w4.heap.size, 2, none⟩ = false := bfroz2 hb11 (v := .float .f64 r3) (by simp [go_sem, *]) (by simp [go_sem, *])
  have nnnnfd53 : w11.frozen? ⟨w4.heap.size, 3, none⟩ = false := bfroz2 hb11 (v := .float .f64 r4) (by simp [go_sem, *]) (by simp [go_sem, *])
  have nnnnd20 : w11.cell? ⟨w1.heap.size, 0, none⟩ = some (.float .f64 (f 0)) := bkeep2 hb11 (by rw [set_other (by first | omega | (simp; done) | (simp; omega)), set_other (by first | omega | (simp; done) | (simp; omega)), set_other (by first | omega | (simp; done) | (simp; omega)), set_other (by first | omega | (simp; done) | (simp; omega))]; exact nnnd20)
  have nnnnd21 : w11.cell? ⟨w1.heap.size, 1, none⟩ = some (.float .f64 (f 1)) := bkeep2 hb11 (by rw [set_other (by first | omega | (simp; done) | (simp; omega)), set_other (by first | omega | (simp; done) | (simp; omega)), set_other (by first | omega | (simp; done) | (simp; omega)), set_other (by first | omega | (simp; done) | (simp; omega))]; exact nnnd21)
  have nnnnd22 : w11.cell? ⟨w1.heap.size, 2, none⟩ = some (.float .f64 (f 2)) := bkeep2 hb11 (by rw [set_other (by first | omega | (simp; done) | (simp; omega)), set_other (by first | omega | (simp; done) | (simp; omega)), set_other (by first | omega | (simp; done) | (simp; omega)), set_other (by first | omega | (simp; done) | (simp; omega))]; exact nnnd22)
  have nnnnd23 : w11.cell? ⟨w1.heap.size, 3, none⟩ = some (.float .f64 (f 3)) := bkeep2 hb11 (by rw [set_other (by first | omega | (simp; done) | (simp; omega)), set_other (by first | omega | (simp; done) | (simp; omega)), set_other (by first | omega | (simp; done) | (simp; omega)), set_other (by first | omega | (simp; done) | (simp; omega))]; exact nnnd23)
  have nnnnd30 : w11.cell? ⟨w2.heap.size, 0, none⟩ = some (.float .f64 (f 4)) := bkeep2 hb11 (by rw [set_other (by first | omega | (simp; done) | (simp; omega)), set_other (by first | omega | (simp; done) | (simp; omega)), set_other (by first | omega | (simp; done) | (simp; omega)), set_other (by first | omega | (simp; done) | (simp; omega))]; exact nnnd30)
  have nnnnd31 : w11.cell? ⟨w2.heap.size, 1, none⟩ = some (.float .f64 (f 5)) := bkeep2 hb11 (by rw [set_other (by first | omega | (simp; done) | (simp; omega)), set_other (by first | omega | (simp; done) | (simp; omega)), set_other (by first | omega | (simp; done) | (simp; omega)), set_other (by first | omega | (simp; done) | (simp; omega))]; exact nnnd31)
  have nnnnd32 : w11.cell? ⟨w2.heap.size, 2, none⟩ = some (.float .f64 (f 6)) := bkeep2 hb11 (by rw [set_other (by first | omega | (simp; done) | (simp; omega)), set_other (by first | omega | (simp; done) | (simp; omega)), set_other (by first | omega | (simp; done) | (simp; omega)), set_other (by first | omega | (simp; done) | (simp; omega))]; exact nnnd32)
  have nnnnd33 : w11.cell? ⟨w2.heap.size, 3, none⟩ = some (.float .f64 (f 7)) := bkeep2 hb11 (by rw [set_other (by first | omega | (simp; done) | (simp; omega)), set_other (by first | omega | (simp; done) | (simp; omega)), set_other (by first | omega | (simp; done) | (simp; omega)), set_other (by first | omega | (simp; done) | (simp; omega))]; exact nnnd33)
  have nnnnd40 : w11.cell? ⟨w3.heap.size, 0, none⟩ = some (.float .f64 r1) := bkeep2 hb11 (by rw [set_other (by first | omega | (simp; done) | (simp; omega)), set_other (by first | omega | (simp; done) | (simp; omega)), set_other (by first | omega | (simp; done) | (simp; omega)), set_other (by first | omega | (simp; done) | (simp; omega))]; exact nnnd40)
  have nnnnd41 : w11.cell? ⟨w3.heap.size, 1, none⟩ = some (.float .f64 r2) := bkeep2 hb11 (by rw [set_other (by first | omega | (simp; done) | (simp; omega)), set_other (by first | omega | (simp; done) | (simp; omega)), set_other (by first | omega | (simp; done) | (simp; omega)), set_other (by first | omega | (simp; done) | (simp; omega))]; exact nnnd41)
  have nnnnd42 : w11.cell? ⟨w3.heap.size, 2, none⟩ = some (.float .f64 r3) := bkeep2 hb11 (by rw [set_other (by first | omega | (simp; done) | (simp; omega)), set_other (by first | omega | (simp; done) | (simp; omega)), set_other (by first | omega | (simp; done) | (simp; omega)), set_other (by first | omega | (simp; done) | (simp; omega))]; exact nnnd42)
  have nnnnd43 : w11.cell? ⟨w3.heap.size, 3, none⟩ = some (.float .f64 r4) := bkeep2 hb11 (by rw [set_other (by first | omega | (simp; done) | (simp; omega)), set_other (by first | omega | (simp; done) | (simp; omega)), set_other (by first | omega | (simp; done) | (simp; omega)), set_other (by first | omega | (simp; done) | (simp; omega))]; exact nnnd43)
  have nnnnd50 : w11.cell? ⟨w4.heap.size, 0, none⟩ = some (.float .f64 r1) := bkeep2 hb11 (by simp [go_sem, *])
  have nnnnd51 : w11.cell? ⟨w4.heap.size, 1, none⟩ = some (.float .f64 r2) := bkeep2 hb11 (by simp [go_sem, *])
  have nnnnd52 : w11.cell? ⟨w4.heap.size, 2, none⟩ = some (.float .f64 r3) := bkeep2 hb11 (by simp [go_sem, *])
  have nnnnd53 : w11.cell? ⟨w4.heap.size, 3, none⟩ = some (.float .f64 r4) := bkeep2 hb11 (by simp [go_sem, *])
  clear nnnd20 nnnd21 nnnd22 nnnd23 nnnd30 nnnd31 nnnd32 nnnd33 nnnd40 nnnfd40 nnnd41 nnnfd41 nnnd42 nnnfd42 nnnd43 nnnfd43 nnnd50 nnnfd50 nnnd51 nnnfd51 nnnd52 nnnfd52 nnnd53 nnnfd53
  have l0 : w1.heap.size < w11.heap.size := cell_lt nnnnd20
  have l1 : w2.heap.size < w11.heap.size := cell_lt nnnnd30
  have l2 : w3.heap.size < w11.heap.size := cell_lt nnnnd40
  have l3 : w4.heap.size < w11.heap.size := cell_lt nnnnd50
  go_wp2_with fail
  go_ret
  refine ⟨rfl, ?_⟩
  repeat (with_reducible first | exact Below.refl _ _ | assumption | refine Below.drew ?_ | refine bl_drewN ?_ _ | refine Below.setCell ?_ (by first | omega | (simp; done) | (simp; omega)) _ | refine Below.alloc ?_ (by first | omega | (simp; done) | (simp; omega)) _ | refine bl_next ?_ (by assumption) | refine bl_trans ?_ (by assumption) (by first | omega | (simp; done) | (simp; omega)))

end Go.Proofs.Ytacnclofbnafiaa
