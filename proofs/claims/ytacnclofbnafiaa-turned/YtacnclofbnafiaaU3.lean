import Derived.Test.YtacnclofbnafiaaU2
namespace Go.Proofs.Ytacnclofbnafiaa
open Go.RowKit Fl

set_option maxRecDepth 100000 in
set_option maxHeartbeats 16000000 in
theorem turned_s_w (v : Value) (f : Nat → Nat) (p0 pi0 p pi : Int) (x xi y1 y2 y3 y4 d1 d2 d3 mm z1 z2 z3 z4 g1 g2 far : Nat)
    (w1 : ∀ w, Calls Try.prog 50 #[.int .i64 p0] w fun e w' => e = .returned (.int .i64 p) ∧ w' = w)
    (w2 : ∀ w, Calls Try.prog 50 #[.int .i64 pi0] w fun e w' => e = .returned (.int .i64 pi) ∧ w' = w)
    (bp : -1048576 ≤ p ∧ p ≤ 1048576) (bpi : -1048576 ≤ pi ∧ pi ≤ 1048576)
    (cx : floatOfInt .f64 (p) = x)
    (cxi : floatOfInt .f64 (pi) = xi)
    (Q : ∀ a b r : Nat, a < 18446744073709551616 → b < 18446744073709551616 → r < 18446744073709551616 → ∃ (v1 v2 vm : Bool) (e1 e2 e3 e4 nr : Nat), (∀ w, Calls Try.prog 66 #[.float .f64 x, .float .f64 xi, .agg #[.complex .f64 a b, .float .f64 r]] w fun e w' => e = .returned (.bool v1) ∧ Below w.heap.size w w') ∧ (∀ w, Calls Try.prog 76 #[.agg #[.complex .f64 a b, .float .f64 r]] w fun e w' => e = .returned (.agg #[.float .f64 e1, .float .f64 e2, .float .f64 e3, .float .f64 e4]) ∧ Below w.heap.size w w') ∧ (∀ w, Calls Try.prog 77 #[.float .f64 x, .float .f64 xi, .agg #[.float .f64 e1, .float .f64 e2, .float .f64 e3, .float .f64 e4]] w fun e w' => e = .returned (.bool v2) ∧ Below w.heap.size w w') ∧ (v1 = true → v2 = true) ∧ (∀ w, Calls Try.prog 73 #[.agg #[.complex .f64 a b, .float .f64 r]] w fun e w' => e = .returned (.bool vm) ∧ Below w.heap.size w w') ∧ (v1 = true → vm = true → (Op.unary .neg (.float .f64 r) = pure (.float .f64 nr)) ∧ (∀ w, Calls Try.prog 82 #[.float .f64 e1, .float .f64 a, .float .f64 nr] w fun e w' => e = .returned (.bool true) ∧ Below w.heap.size w w') ∧ (∀ w, Calls Try.prog 82 #[.float .f64 e2, .float .f64 a, .float .f64 r] w fun e w' => e = .returned (.bool true) ∧ Below w.heap.size w w') ∧ (∀ w, Calls Try.prog 82 #[.float .f64 e3, .float .f64 b, .float .f64 nr] w fun e w' => e = .returned (.bool true) ∧ Below w.heap.size w w') ∧ (∀ w, Calls Try.prog 82 #[.float .f64 e4, .float .f64 b, .float .f64 r] w fun e w' => e = .returned (.bool true) ∧ Below w.heap.size w w')))
    (r1 : ∀ w, Calls Try.prog 51 #[.float .f64 x, .float .f64 (f 3), .float .f64 (f 4)] w fun e w' => e = .returned (.agg #[.float .f64 y1, .float .f64 y2]) ∧ Below w.heap.size w w')
    (r2 : ∀ w, Calls Try.prog 51 #[.float .f64 xi, .float .f64 (f 5), .float .f64 (f 6)] w fun e w' => e = .returned (.agg #[.float .f64 y3, .float .f64 y4]) ∧ Below w.heap.size w w')
    (td : ∀ w, Calls Try.prog 78 #[.agg #[.float .f64 y1, .float .f64 y2, .float .f64 y3, .float .f64 y4]] w fun e w' => e = .returned (.agg #[.complex .f64 d1 d2, .float .f64 d3]) ∧ Below w.heap.size w w')
    (id : ∀ w, Calls Try.prog 66 #[.float .f64 x, .float .f64 xi, .agg #[.complex .f64 d1 d2, .float .f64 d3]] w fun e w' => e = .returned (.bool true) ∧ Below w.heap.size w w')
    (fo : ∀ w, Calls Try.prog 70 #[.agg #[.complex .f64 d1 d2, .float .f64 d3]] w fun e w' => e = .returned (.bool true) ∧ Below w.heap.size w w')
    (lx : ∀ w, Calls Try.prog 79 #[.float .f64 4607182418800017408, .int .i64 300] w fun e w' => e = .returned (.float .f64 mm) ∧ w' = w)
    (a1 : ∀ w, Calls Try.prog 53 #[.float .f64 y1] w fun e w' => e = .returned (.float .f64 z1) ∧ Below w.heap.size w w')
    (a2 : ∀ w, Calls Try.prog 53 #[.float .f64 y2] w fun e w' => e = .returned (.float .f64 z2) ∧ Below w.heap.size w w')
    (a3 : ∀ w, Calls Try.prog 53 #[.float .f64 y3] w fun e w' => e = .returned (.float .f64 z3) ∧ Below w.heap.size w w')
    (a4 : ∀ w, Calls Try.prog 53 #[.float .f64 y4] w fun e w' => e = .returned (.float .f64 z4) ∧ Below w.heap.size w w')
    (x1 : ∀ w, Calls Try.prog 80 #[.float .f64 z1, .float .f64 z2] w fun e w' => e = .returned (.float .f64 g1) ∧ Below w.heap.size w w')
    (x2 : ∀ w, Calls Try.prog 80 #[.float .f64 z3, .float .f64 z4] w fun e w' => e = .returned (.float .f64 g2) ∧ Below w.heap.size w w')
    (x3 : ∀ w, Calls Try.prog 80 #[.float .f64 g1, .float .f64 g2] w fun e w' => e = .returned (.float .f64 far) ∧ Below w.heap.size w w')
    (lf : (Ieee.double.order far mm == some .lt || Ieee.double.order far mm == some .eq) = true)
    (h1 k1 j1 h2 k2 j2 r2w s2w : Nat)
    (c1 : Ieee.double.div y2 4611686018427387904 = some h1)
    (c2 : Ieee.double.div y1 4611686018427387904 = some k1)
    (c3 : Ieee.double.sub h1 k1 = some j1)
    (c4 : Ieee.double.div y4 4611686018427387904 = some h2)
    (c5 : Ieee.double.div y3 4611686018427387904 = some k2)
    (c6 : Ieee.double.sub h2 k2 = some j2)
    (sz : ∀ w, Calls Try.prog 74 #[.complex .f64 j1 j2] w fun e w' => e = .returned (.float .f64 r2w) ∧ Below w.heap.size w w')
    (sw : ∀ w, Calls Try.prog 74 #[.complex .f64 g1 g2] w fun e w' => e = .returned (.float .f64 s2w) ∧ Below w.heap.size w w')
    (bo : ∀ w, Calls Try.prog 81 #[.float .f64 d3, .float .f64 r2w, .float .f64 s2w] w fun e w' => e = .returned (.bool true) ∧ Below w.heap.size w w')
    (i1 : ∀ w, Calls Try.prog 29 #[.float .f64 far, .int .i64 1] w fun e w' => e = .returned (.bool false) ∧ w' = w)
    (hf : ∀ i, f i < 18446744073709551616)
    (w : World) (hl : Lst w v f) :
    Calls Try.prog 14 #[.int .i64 p0, .int .i64 pi0, v] w fun e w' => e = .returned (.bool true) ∧ Below w.heap.size w w' := by
  have q1 := fun t' w => run_float_arith (P := Try.prog) w .quo t' .f64 _ _ _ c1
  have q2 := fun t' w => run_float_arith (P := Try.prog) w .quo t' .f64 _ _ _ c2
  have q3 := fun t' w => run_float_arith (P := Try.prog) w .sub t' .f64 _ _ _ c3
  have q4 := fun t' w => run_float_arith (P := Try.prog) w .quo t' .f64 _ _ _ c4
  have q5 := fun t' w => run_float_arith (P := Try.prog) w .quo t' .f64 _ _ _ c5
  have q6 := fun t' w => run_float_arith (P := Try.prog) w .sub t' .f64 _ _ _ c6
  clear c1 c2 c3 c4 c5 c6
  go_enter Try.func14, Try.ntmps14
  go_wp2_with fail
  go_at_call 50
  refine (w1 _).mono ?_
  rintro e w' ⟨rfl, rfl⟩
  go_wp2_with fail
  go_at_call 50
  refine (w2 _).mono ?_
  rintro e w' ⟨rfl, rfl⟩
  go_wp2_with fail
  go_at_call 65
  refine (at_n hl 0 0 rfl (by decide)).mono ?_
  rintro e w' ⟨rfl, rfl⟩
  go_wp2_with fail
  go_at_call 65
  refine (at_n hl 1 1 rfl (by decide)).mono ?_
  rintro e w' ⟨rfl, rfl⟩
  go_wp2_with fail
  go_at_call 65
  refine (at_n hl 2 2 rfl (by decide)).mono ?_
  rintro e w' ⟨rfl, rfl⟩
  go_wp2_with fail
  go_at_call 64
  refine (about_any _ _ _ _ _ (hf 0) (hf 1) (hf 2) _).mono ?_
  rintro e w1 ⟨⟨a, b, r, rfl, ba, bb, br⟩, hb1⟩
  have s1 := hb1.size
  try simp at s1
  have hl1 := (hl.below hb1).below (bl_alloc (o := .cells #[.complex .f64 a b, .float .f64 r] 55) (Below.refl _ _))
  obtain ⟨v1, v2, vm, e1, e2, e3, e4, nr, t1, t2, t3, t4, t5, t6⟩ := Q a b r ba bb br
  clear Q hf ba bb br
  go_wp2_with fail
  go_at_call 66
  refine (t1 _).mono ?_
  rintro e w2 ⟨rfl, hb2⟩
  have s2 := hb2.size
  try simp at s2
  have d20 : w2.cell? ⟨w1.heap.size, 0, none⟩ = some (.complex .f64 a b) := bkeep2 hb2 (by simp [go_sem])
  have d21 : w2.cell? ⟨w1.heap.size, 1, none⟩ = some (.float .f64 r) := bkeep2 hb2 (by simp [go_sem])
  have l0 : w1.heap.size < w2.heap.size := cell_lt d20
  replace hl1 := hl1.below hb2
  go_wp2_with fail
  go_at_call 76
  refine (t2 _).mono ?_
  rintro e w3 ⟨rfl, hb3⟩
  have s3 := hb3.size
  try simp at s3
  replace d20 := bkeep2 hb3 d20
  replace d21 := bkeep2 hb3 d21
  have l0 : w1.heap.size < w3.heap.size := cell_lt d20
  replace hl1 := (hl1.below hb3).below (bl_alloc (o := .cells #[.float .f64 e1, .float .f64 e2, .float .f64 e3, .float .f64 e4] 47) (Below.refl _ _))
  go_wp2_with fail
  go_at_call 77
  refine (t3 _).mono ?_
  rintro e w4 ⟨rfl, hb4⟩
  have s4 := hb4.size
  try simp at s4
  replace d20 := bkeep3 hb4 d20
  replace d21 := bkeep3 hb4 d21
  have d40 : w4.cell? ⟨w3.heap.size, 0, none⟩ = some (.float .f64 e1) := bkeep2 hb4 (by simp [go_sem])
  have d41 : w4.cell? ⟨w3.heap.size, 1, none⟩ = some (.float .f64 e2) := bkeep2 hb4 (by simp [go_sem])
  have d42 : w4.cell? ⟨w3.heap.size, 2, none⟩ = some (.float .f64 e3) := bkeep2 hb4 (by simp [go_sem])
  have d43 : w4.cell? ⟨w3.heap.size, 3, none⟩ = some (.float .f64 e4) := bkeep2 hb4 (by simp [go_sem])
  have l0 : w1.heap.size < w4.heap.size := cell_lt d20
  have l1 : w3.heap.size < w4.heap.size := cell_lt d40
  replace hl1 := hl1.below hb4
  rcases v1 with _ | _
  · clear t4
    go_wp2_with fail
    go_at_call 65
    refine (at_n hl1 3 3 rfl (by decide)).mono ?_
    rintro e w' ⟨rfl, rfl⟩
    go_wp2_with fail
    go_at_call 65
    refine (at_n hl1 4 4 rfl (by decide)).mono ?_
    rintro e w' ⟨rfl, rfl⟩
    go_wp2_with fail
    go_at_call 51
    refine (r1 _).mono ?_
    rintro e w5 ⟨rfl, hb5⟩
    have s5 := hb5.size
    try simp at s5
    replace d20 := bkeep2 hb5 d20
    replace d21 := bkeep2 hb5 d21
    replace d40 := bkeep2 hb5 d40
    replace d41 := bkeep2 hb5 d41
    replace d42 := bkeep2 hb5 d42
    replace d43 := bkeep2 hb5 d43
    have l0 : w1.heap.size < w5.heap.size := cell_lt d20
    have l1 : w3.heap.size < w5.heap.size := cell_lt d40
    replace hl1 := hl1.below hb5
    go_wp2_with fail
    go_at_call 65
    refine (at_n hl1 5 5 rfl (by decide)).mono ?_
    rintro e w' ⟨rfl, rfl⟩
    go_wp2_with fail
    go_at_call 65
    refine (at_n hl1 6 6 rfl (by decide)).mono ?_
    rintro e w' ⟨rfl, rfl⟩
    go_wp2_with fail
    go_at_call 51
    refine (r2 _).mono ?_
    rintro e w6 ⟨rfl, hb6⟩
    have s6 := hb6.size
    try simp at s6
    replace d20 := bkeep2 hb6 d20
    replace d21 := bkeep2 hb6 d21
    replace d40 := bkeep2 hb6 d40
    replace d41 := bkeep2 hb6 d41
    replace d42 := bkeep2 hb6 d42
    replace d43 := bkeep2 hb6 d43
    have l0 : w1.heap.size < w6.heap.size := cell_lt d20
    have l1 : w3.heap.size < w6.heap.size := cell_lt d40
    go_wp2_with fail
    clear hl1 hl
    go_at_call 78
    refine (td _).mono ?_
    rintro e w7 ⟨rfl, hb7⟩
    have s7 := hb7.size
    try simp at s7
    replace d20 := bkeep3 hb7 d20
    replace d21 := bkeep3 hb7 d21
    replace d40 := bkeep3 hb7 d40
    replace d41 := bkeep3 hb7 d41
    replace d42 := bkeep3 hb7 d42
    replace d43 := bkeep3 hb7 d43
    have d70 : w7.cell? ⟨w6.heap.size, 0, none⟩ = some (.float .f64 y1) := bkeep2 hb7 (by simp [go_sem])
    have d71 : w7.cell? ⟨w6.heap.size, 1, none⟩ = some (.float .f64 y2) := bkeep2 hb7 (by simp [go_sem])
    have d72 : w7.cell? ⟨w6.heap.size, 2, none⟩ = some (.float .f64 y3) := bkeep2 hb7 (by simp [go_sem])
    have d73 : w7.cell? ⟨w6.heap.size, 3, none⟩ = some (.float .f64 y4) := bkeep2 hb7 (by simp [go_sem])
    have l0 : w1.heap.size < w7.heap.size := cell_lt d20
    have l1 : w3.heap.size < w7.heap.size := cell_lt d40
    have l2 : w6.heap.size < w7.heap.size := cell_lt d70
    go_wp2_with fail
    go_at_call 66
    refine (id _).mono ?_
    rintro e w8 ⟨rfl, hb8⟩
    have s8 := hb8.size
    try simp at s8
    replace d20 := bkeep3 hb8 d20
    replace d21 := bkeep3 hb8 d21
    replace d40 := bkeep3 hb8 d40
    replace d41 := bkeep3 hb8 d41
    replace d42 := bkeep3 hb8 d42
    replace d43 := bkeep3 hb8 d43
    replace d70 := bkeep3 hb8 d70
    replace d71 := bkeep3 hb8 d71
    replace d72 := bkeep3 hb8 d72
    replace d73 := bkeep3 hb8 d73
    have d80 : w8.cell? ⟨w7.heap.size, 0, none⟩ = some (.complex .f64 d1 d2) := bkeep2 hb8 (by simp [go_sem])
    have d81 : w8.cell? ⟨w7.heap.size, 1, none⟩ = some (.float .f64 d3) := bkeep2 hb8 (by simp [go_sem])
    have l0 : w1.heap.size < w8.heap.size := cell_lt d20
    have l1 : w3.heap.size < w8.heap.size := cell_lt d40
    have l2 : w6.heap.size < w8.heap.size := cell_lt d70
    have l3 : w7.heap.size < w8.heap.size := cell_lt d80
    go_wp2_with fail
    go_at_call 70
    refine (fo _).mono ?_
    rintro e w9 ⟨rfl, hb9⟩
    have s9 := hb9.size
    try simp at s9
    replace d20 := bkeep2 hb9 d20
    replace d21 := bkeep2 hb9 d21
    replace d40 := bkeep2 hb9 d40
    replace d41 := bkeep2 hb9 d41
    replace d42 := bkeep2 hb9 d42
    replace d43 := bkeep2 hb9 d43
    replace d70 := bkeep2 hb9 d70
    replace d71 := bkeep2 hb9 d71
    replace d72 := bkeep2 hb9 d72
    replace d73 := bkeep2 hb9 d73
    replace d80 := bkeep2 hb9 d80
    replace d81 := bkeep2 hb9 d81
    have l0 : w1.heap.size < w9.heap.size := cell_lt d20
    have l1 : w3.heap.size < w9.heap.size := cell_lt d40
    have l2 : w6.heap.size < w9.heap.size := cell_lt d70
    have l3 : w7.heap.size < w9.heap.size := cell_lt d80
    go_wp2_with fail
    go_at_call 79
    refine (lx _).mono ?_
    rintro e w' ⟨rfl, rfl⟩
    go_wp2_with fail
    go_region_held3 (fun w' => w'.cell? ⟨w6.heap.size, 0, none⟩ = some (.float .f64 y1) ∧ w'.cell? ⟨w6.heap.size, 1, none⟩ = some (.float .f64 y2) ∧ w'.cell? ⟨w6.heap.size, 2, none⟩ = some (.float .f64 y3) ∧ w'.cell? ⟨w6.heap.size, 3, none⟩ = some (.float .f64 y4) ∧ w'.cell? ⟨w7.heap.size, 0, none⟩ = some (.complex .f64 d1 d2) ∧ w'.cell? ⟨w7.heap.size, 1, none⟩ = some (.float .f64 d3)) (((try dsimp only); (try go_split_ands); (repeat' apply And.intro) <;> first | (with_reducible assumption) | (rw []; (with_reducible assumption)) | (with_reducible refine bkeep2 hb ?_; first | (with_reducible assumption) | (simp [*]; done)) | go_keep)) (first | (go_at_call 53; with_reducible refine (a1 _).mono ?_; rintro e w' ⟨rfl, hb⟩) | (go_at_call 53; with_reducible refine (a2 _).mono ?_; rintro e w' ⟨rfl, hb⟩) | (go_at_call 53; with_reducible refine (a3 _).mono ?_; rintro e w' ⟨rfl, hb⟩) | (go_at_call 53; with_reducible refine (a4 _).mono ?_; rintro e w' ⟨rfl, hb⟩) | (go_at_call 80; with_reducible refine (x1 _).mono ?_; rintro e w' ⟨rfl, hb⟩) | (go_at_call 80; with_reducible refine (x2 _).mono ?_; rintro e w' ⟨rfl, hb⟩) | (go_at_call 80; with_reducible refine (x3 _).mono ?_; rintro e w' ⟨rfl, hb⟩))
    go_wp2_with fail
    go_at_call 74
    refine (sz _).mono ?_
    rintro e w10 ⟨rfl, hb10⟩
    have x1000 := bkeep2 hb10 (p := ⟨w6.heap.size, 0, none⟩) (v := .float .f64 y1) (by first | (with_reducible assumption) | simp [*])
    have x1001 := bkeep2 hb10 (p := ⟨w6.heap.size, 1, none⟩) (v := .float .f64 y2) (by first | (with_reducible assumption) | simp [*])
    have x1002 := bkeep2 hb10 (p := ⟨w6.heap.size, 2, none⟩) (v := .float .f64 y3) (by first | (with_reducible assumption) | simp [*])
    have x1003 := bkeep2 hb10 (p := ⟨w6.heap.size, 3, none⟩) (v := .float .f64 y4) (by first | (with_reducible assumption) | simp [*])
    have x1010 := bkeep2 hb10 (p := ⟨w7.heap.size, 0, none⟩) (v := .complex .f64 d1 d2) (by first | (with_reducible assumption) | simp [*])
    have x1011 := bkeep2 hb10 (p := ⟨w7.heap.size, 1, none⟩) (v := .float .f64 d3) (by first | (with_reducible assumption) | simp [*])
    go_wp2_with fail
    go_region_held3 (fun w' => w'.cell? ⟨w6.heap.size, 0, none⟩ = some (.float .f64 y1) ∧ w'.cell? ⟨w6.heap.size, 1, none⟩ = some (.float .f64 y2) ∧ w'.cell? ⟨w6.heap.size, 2, none⟩ = some (.float .f64 y3) ∧ w'.cell? ⟨w6.heap.size, 3, none⟩ = some (.float .f64 y4) ∧ w'.cell? ⟨w7.heap.size, 0, none⟩ = some (.complex .f64 d1 d2) ∧ w'.cell? ⟨w7.heap.size, 1, none⟩ = some (.float .f64 d3)) (((try dsimp only); (try go_split_ands); (repeat' apply And.intro) <;> first | (with_reducible assumption) | (rw []; (with_reducible assumption)) | (with_reducible refine bkeep2 hb ?_; first | (with_reducible assumption) | (simp [*]; done)) | go_keep)) (first | (go_at_call 53; with_reducible refine (a1 _).mono ?_; rintro e w' ⟨rfl, hb⟩) | (go_at_call 53; with_reducible refine (a2 _).mono ?_; rintro e w' ⟨rfl, hb⟩) | (go_at_call 53; with_reducible refine (a3 _).mono ?_; rintro e w' ⟨rfl, hb⟩) | (go_at_call 53; with_reducible refine (a4 _).mono ?_; rintro e w' ⟨rfl, hb⟩) | (go_at_call 80; with_reducible refine (x1 _).mono ?_; rintro e w' ⟨rfl, hb⟩) | (go_at_call 80; with_reducible refine (x2 _).mono ?_; rintro e w' ⟨rfl, hb⟩) | (go_at_call 74; with_reducible refine (sw _).mono ?_; rintro e w' ⟨rfl, hb⟩))
    go_wp2_with fail
    go_at_call 81
    refine (bo _).mono ?_
    rintro e w11 ⟨rfl, hb11⟩
    have x1100 := bkeep2 hb11 (p := ⟨w6.heap.size, 0, none⟩) (v := .float .f64 y1) (by first | (with_reducible assumption) | simp [*])
    have x1101 := bkeep2 hb11 (p := ⟨w6.heap.size, 1, none⟩) (v := .float .f64 y2) (by first | (with_reducible assumption) | simp [*])
    have x1102 := bkeep2 hb11 (p := ⟨w6.heap.size, 2, none⟩) (v := .float .f64 y3) (by first | (with_reducible assumption) | simp [*])
    have x1103 := bkeep2 hb11 (p := ⟨w6.heap.size, 3, none⟩) (v := .float .f64 y4) (by first | (with_reducible assumption) | simp [*])
    have x1110 := bkeep2 hb11 (p := ⟨w7.heap.size, 0, none⟩) (v := .complex .f64 d1 d2) (by first | (with_reducible assumption) | simp [*])
    have x1111 := bkeep2 hb11 (p := ⟨w7.heap.size, 1, none⟩) (v := .float .f64 d3) (by first | (with_reducible assumption) | simp [*])
    go_wp2_with fail
    go_at_call 29
    refine (i1 _).mono ?_
    rintro e w' ⟨rfl, rfl⟩
    go_wp2_with fail
    go_ret
    refine ⟨rfl, ?_⟩
    repeat (with_reducible first | exact Below.refl _ _ | assumption | refine Below.drew ?_ | refine bl_drewN ?_ _ | refine Below.setCell ?_ (by first | omega | (simp; done) | (simp; omega)) _ | refine Below.alloc ?_ (by first | omega | (simp; done) | (simp; omega)) _ | refine bl_next ?_ (by assumption) | refine bl_trans ?_ (by assumption) (by first | omega | (simp; done) | (simp; omega)))
  · have tv := t4 rfl
    subst tv
    clear t4
    go_wp2_with fail
    go_at_call 65
    refine (at_n hl1 3 3 rfl (by decide)).mono ?_
    rintro e w' ⟨rfl, rfl⟩
    go_wp2_with fail
    go_at_call 65
    refine (at_n hl1 4 4 rfl (by decide)).mono ?_
    rintro e w' ⟨rfl, rfl⟩
    go_wp2_with fail
    go_at_call 51
    refine (r1 _).mono ?_
    rintro e w5 ⟨rfl, hb5⟩
    have s5 := hb5.size
    try simp at s5
    replace d20 := bkeep2 hb5 d20
    replace d21 := bkeep2 hb5 d21
    replace d40 := bkeep2 hb5 d40
    replace d41 := bkeep2 hb5 d41
    replace d42 := bkeep2 hb5 d42
    replace d43 := bkeep2 hb5 d43
    have l0 : w1.heap.size < w5.heap.size := cell_lt d20
    have l1 : w3.heap.size < w5.heap.size := cell_lt d40
    replace hl1 := hl1.below hb5
    go_wp2_with fail
    go_at_call 65
    refine (at_n hl1 5 5 rfl (by decide)).mono ?_
    rintro e w' ⟨rfl, rfl⟩
    go_wp2_with fail
    go_at_call 65
    refine (at_n hl1 6 6 rfl (by decide)).mono ?_
    rintro e w' ⟨rfl, rfl⟩
    go_wp2_with fail
    go_at_call 51
    refine (r2 _).mono ?_
    rintro e w6 ⟨rfl, hb6⟩
    have s6 := hb6.size
    try simp at s6
    replace d20 := bkeep2 hb6 d20
    replace d21 := bkeep2 hb6 d21
    replace d40 := bkeep2 hb6 d40
    replace d41 := bkeep2 hb6 d41
    replace d42 := bkeep2 hb6 d42
    replace d43 := bkeep2 hb6 d43
    have l0 : w1.heap.size < w6.heap.size := cell_lt d20
    have l1 : w3.heap.size < w6.heap.size := cell_lt d40
    go_wp2_with fail
    clear hl1 hl
    go_at_call 78
    refine (td _).mono ?_
    rintro e w7 ⟨rfl, hb7⟩
    have s7 := hb7.size
    try simp at s7
    replace d20 := bkeep3 hb7 d20
    replace d21 := bkeep3 hb7 d21
    replace d40 := bkeep3 hb7 d40
    replace d41 := bkeep3 hb7 d41
    replace d42 := bkeep3 hb7 d42
    replace d43 := bkeep3 hb7 d43
    have d70 : w7.cell? ⟨w6.heap.size, 0, none⟩ = some (.float .f64 y1) := bkeep2 hb7 (by simp [go_sem])
    have d71 : w7.cell? ⟨w6.heap.size, 1, none⟩ = some (.float .f64 y2) := bkeep2 hb7 (by simp [go_sem])
    have d72 : w7.cell? ⟨w6.heap.size, 2, none⟩ = some (.float .f64 y3) := bkeep2 hb7 (by simp [go_sem])
    have d73 : w7.cell? ⟨w6.heap.size, 3, none⟩ = some (.float .f64 y4) := bkeep2 hb7 (by simp [go_sem])
    have l0 : w1.heap.size < w7.heap.size := cell_lt d20
    have l1 : w3.heap.size < w7.heap.size := cell_lt d40
    have l2 : w6.heap.size < w7.heap.size := cell_lt d70
    go_wp2_with fail
    go_at_call 66
    refine (id _).mono ?_
    rintro e w8 ⟨rfl, hb8⟩
    have s8 := hb8.size
    try simp at s8
    replace d20 := bkeep3 hb8 d20
    replace d21 := bkeep3 hb8 d21
    replace d40 := bkeep3 hb8 d40
    replace d41 := bkeep3 hb8 d41
    replace d42 := bkeep3 hb8 d42
    replace d43 := bkeep3 hb8 d43
    replace d70 := bkeep3 hb8 d70
    replace d71 := bkeep3 hb8 d71
    replace d72 := bkeep3 hb8 d72
    replace d73 := bkeep3 hb8 d73
    have d80 : w8.cell? ⟨w7.heap.size, 0, none⟩ = some (.complex .f64 d1 d2) := bkeep2 hb8 (by simp [go_sem])
    have d81 : w8.cell? ⟨w7.heap.size, 1, none⟩ = some (.float .f64 d3) := bkeep2 hb8 (by simp [go_sem])
    have l0 : w1.heap.size < w8.heap.size := cell_lt d20
    have l1 : w3.heap.size < w8.heap.size := cell_lt d40
    have l2 : w6.heap.size < w8.heap.size := cell_lt d70
    have l3 : w7.heap.size < w8.heap.size := cell_lt d80
    go_wp2_with fail
    go_at_call 70
    refine (fo _).mono ?_
    rintro e w9 ⟨rfl, hb9⟩
    have s9 := hb9.size
    try simp at s9
    replace d20 := bkeep2 hb9 d20
    replace d21 := bkeep2 hb9 d21
    replace d40 := bkeep2 hb9 d40
    replace d41 := bkeep2 hb9 d41
    replace d42 := bkeep2 hb9 d42
    replace d43 := bkeep2 hb9 d43
    replace d70 := bkeep2 hb9 d70
    replace d71 := bkeep2 hb9 d71
    replace d72 := bkeep2 hb9 d72
    replace d73 := bkeep2 hb9 d73
    replace d80 := bkeep2 hb9 d80
    replace d81 := bkeep2 hb9 d81
    have l0 : w1.heap.size < w9.heap.size := cell_lt d20
    have l1 : w3.heap.size < w9.heap.size := cell_lt d40
    have l2 : w6.heap.size < w9.heap.size := cell_lt d70
    have l3 : w7.heap.size < w9.heap.size := cell_lt d80
    go_wp2_with fail
    go_at_call 79
    refine (lx _).mono ?_
    rintro e w' ⟨rfl, rfl⟩
    go_wp2_with fail
    go_region_held3 (fun w' => w'.cell? ⟨w1.heap.size, 0, none⟩ = some (.complex .f64 a b) ∧ w'.cell? ⟨w1.heap.size, 1, none⟩ = some (.float .f64 r) ∧ w'.cell? ⟨w3.heap.size, 0, none⟩ = some (.float .f64 e1) ∧ w'.cell? ⟨w3.heap.size, 1, none⟩ = some (.float .f64 e2) ∧ w'.cell? ⟨w3.heap.size, 2, none⟩ = some (.float .f64 e3) ∧ w'.cell? ⟨w3.heap.size, 3, none⟩ = some (.float .f64 e4) ∧ w'.cell? ⟨w6.heap.size, 0, none⟩ = some (.float .f64 y1) ∧ w'.cell? ⟨w6.heap.size, 1, none⟩ = some (.float .f64 y2) ∧ w'.cell? ⟨w6.heap.size, 2, none⟩ = some (.float .f64 y3) ∧ w'.cell? ⟨w6.heap.size, 3, none⟩ = some (.float .f64 y4) ∧ w'.cell? ⟨w7.heap.size, 0, none⟩ = some (.complex .f64 d1 d2) ∧ w'.cell? ⟨w7.heap.size, 1, none⟩ = some (.float .f64 d3)) (((try dsimp only); (try go_split_ands); (repeat' apply And.intro) <;> first | (with_reducible assumption) | (rw []; (with_reducible assumption)) | (with_reducible refine bkeep2 hb ?_; first | (with_reducible assumption) | (simp [*]; done)) | go_keep)) (first | (go_at_call 53; with_reducible refine (a1 _).mono ?_; rintro e w' ⟨rfl, hb⟩) | (go_at_call 53; with_reducible refine (a2 _).mono ?_; rintro e w' ⟨rfl, hb⟩) | (go_at_call 53; with_reducible refine (a3 _).mono ?_; rintro e w' ⟨rfl, hb⟩) | (go_at_call 53; with_reducible refine (a4 _).mono ?_; rintro e w' ⟨rfl, hb⟩) | (go_at_call 80; with_reducible refine (x1 _).mono ?_; rintro e w' ⟨rfl, hb⟩) | (go_at_call 80; with_reducible refine (x2 _).mono ?_; rintro e w' ⟨rfl, hb⟩) | (go_at_call 80; with_reducible refine (x3 _).mono ?_; rintro e w' ⟨rfl, hb⟩))
    go_wp2_with fail
    go_at_call 74
    refine (sz _).mono ?_
    rintro e w10 ⟨rfl, hb10⟩
    have x1000 := bkeep2 hb10 (p := ⟨w1.heap.size, 0, none⟩) (v := .complex .f64 a b) (by first | (with_reducible assumption) | simp [*])
    have x1001 := bkeep2 hb10 (p := ⟨w1.heap.size, 1, none⟩) (v := .float .f64 r) (by first | (with_reducible assumption) | simp [*])
    have x1010 := bkeep2 hb10 (p := ⟨w3.heap.size, 0, none⟩) (v := .float .f64 e1) (by first | (with_reducible assumption) | simp [*])
    have x1011 := bkeep2 hb10 (p := ⟨w3.heap.size, 1, none⟩) (v := .float .f64 e2) (by first | (with_reducible assumption) | simp [*])
    have x1012 := bkeep2 hb10 (p := ⟨w3.heap.size, 2, none⟩) (v := .float .f64 e3) (by first | (with_reducible assumption) | simp [*])
    have x1013 := bkeep2 hb10 (p := ⟨w3.heap.size, 3, none⟩) (v := .float .f64 e4) (by first | (with_reducible assumption) | simp [*])
    have x1020 := bkeep2 hb10 (p := ⟨w6.heap.size, 0, none⟩) (v := .float .f64 y1) (by first | (with_reducible assumption) | simp [*])
    have x1021 := bkeep2 hb10 (p := ⟨w6.heap.size, 1, none⟩) (v := .float .f64 y2) (by first | (with_reducible assumption) | simp [*])
    have x1022 := bkeep2 hb10 (p := ⟨w6.heap.size, 2, none⟩) (v := .float .f64 y3) (by first | (with_reducible assumption) | simp [*])
    have x1023 := bkeep2 hb10 (p := ⟨w6.heap.size, 3, none⟩) (v := .float .f64 y4) (by first | (with_reducible assumption) | simp [*])
    have x1030 := bkeep2 hb10 (p := ⟨w7.heap.size, 0, none⟩) (v := .complex .f64 d1 d2) (by first | (with_reducible assumption) | simp [*])
    have x1031 := bkeep2 hb10 (p := ⟨w7.heap.size, 1, none⟩) (v := .float .f64 d3) (by first | (with_reducible assumption) | simp [*])
    go_wp2_with fail
    go_region_held3 (fun w' => w'.cell? ⟨w1.heap.size, 0, none⟩ = some (.complex .f64 a b) ∧ w'.cell? ⟨w1.heap.size, 1, none⟩ = some (.float .f64 r) ∧ w'.cell? ⟨w3.heap.size, 0, none⟩ = some (.float .f64 e1) ∧ w'.cell? ⟨w3.heap.size, 1, none⟩ = some (.float .f64 e2) ∧ w'.cell? ⟨w3.heap.size, 2, none⟩ = some (.float .f64 e3) ∧ w'.cell? ⟨w3.heap.size, 3, none⟩ = some (.float .f64 e4) ∧ w'.cell? ⟨w6.heap.size, 0, none⟩ = some (.float .f64 y1) ∧ w'.cell? ⟨w6.heap.size, 1, none⟩ = some (.float .f64 y2) ∧ w'.cell? ⟨w6.heap.size, 2, none⟩ = some (.float .f64 y3) ∧ w'.cell? ⟨w6.heap.size, 3, none⟩ = some (.float .f64 y4) ∧ w'.cell? ⟨w7.heap.size, 0, none⟩ = some (.complex .f64 d1 d2) ∧ w'.cell? ⟨w7.heap.size, 1, none⟩ = some (.float .f64 d3)) (((try dsimp only); (try go_split_ands); (repeat' apply And.intro) <;> first | (with_reducible assumption) | (rw []; (with_reducible assumption)) | (with_reducible refine bkeep2 hb ?_; first | (with_reducible assumption) | (simp [*]; done)) | go_keep)) (first | (go_at_call 53; with_reducible refine (a1 _).mono ?_; rintro e w' ⟨rfl, hb⟩) | (go_at_call 53; with_reducible refine (a2 _).mono ?_; rintro e w' ⟨rfl, hb⟩) | (go_at_call 53; with_reducible refine (a3 _).mono ?_; rintro e w' ⟨rfl, hb⟩) | (go_at_call 53; with_reducible refine (a4 _).mono ?_; rintro e w' ⟨rfl, hb⟩) | (go_at_call 80; with_reducible refine (x1 _).mono ?_; rintro e w' ⟨rfl, hb⟩) | (go_at_call 80; with_reducible refine (x2 _).mono ?_; rintro e w' ⟨rfl, hb⟩) | (go_at_call 74; with_reducible refine (sw _).mono ?_; rintro e w' ⟨rfl, hb⟩))
    go_wp2_with fail
    go_at_call 81
    refine (bo _).mono ?_
    rintro e w11 ⟨rfl, hb11⟩
    have x1100 := bkeep2 hb11 (p := ⟨w1.heap.size, 0, none⟩) (v := .complex .f64 a b) (by first | (with_reducible assumption) | simp [*])
    have x1101 := bkeep2 hb11 (p := ⟨w1.heap.size, 1, none⟩) (v := .float .f64 r) (by first | (with_reducible assumption) | simp [*])
    have x1110 := bkeep2 hb11 (p := ⟨w3.heap.size, 0, none⟩) (v := .float .f64 e1) (by first | (with_reducible assumption) | simp [*])
    have x1111 := bkeep2 hb11 (p := ⟨w3.heap.size, 1, none⟩) (v := .float .f64 e2) (by first | (with_reducible assumption) | simp [*])
    have x1112 := bkeep2 hb11 (p := ⟨w3.heap.size, 2, none⟩) (v := .float .f64 e3) (by first | (with_reducible assumption) | simp [*])
    have x1113 := bkeep2 hb11 (p := ⟨w3.heap.size, 3, none⟩) (v := .float .f64 e4) (by first | (with_reducible assumption) | simp [*])
    have x1120 := bkeep2 hb11 (p := ⟨w6.heap.size, 0, none⟩) (v := .float .f64 y1) (by first | (with_reducible assumption) | simp [*])
    have x1121 := bkeep2 hb11 (p := ⟨w6.heap.size, 1, none⟩) (v := .float .f64 y2) (by first | (with_reducible assumption) | simp [*])
    have x1122 := bkeep2 hb11 (p := ⟨w6.heap.size, 2, none⟩) (v := .float .f64 y3) (by first | (with_reducible assumption) | simp [*])
    have x1123 := bkeep2 hb11 (p := ⟨w6.heap.size, 3, none⟩) (v := .float .f64 y4) (by first | (with_reducible assumption) | simp [*])
    have x1130 := bkeep2 hb11 (p := ⟨w7.heap.size, 0, none⟩) (v := .complex .f64 d1 d2) (by first | (with_reducible assumption) | simp [*])
    have x1131 := bkeep2 hb11 (p := ⟨w7.heap.size, 1, none⟩) (v := .float .f64 d3) (by first | (with_reducible assumption) | simp [*])
    go_wp2_with fail
    go_at_call 29
    refine (i1 _).mono ?_
    rintro e w' ⟨rfl, rfl⟩
    go_wp2_with fail
    go_at_call 73
    refine (t5 _).mono ?_
    rintro e w12 ⟨rfl, hb12⟩
    have x1200 := bkeep2 hb12 (p := ⟨w1.heap.size, 0, none⟩) (v := .complex .f64 a b) (by first | (with_reducible assumption) | simp [*])
    have x1201 := bkeep2 hb12 (p := ⟨w1.heap.size, 1, none⟩) (v := .float .f64 r) (by first | (with_reducible assumption) | simp [*])
    have x1210 := bkeep2 hb12 (p := ⟨w3.heap.size, 0, none⟩) (v := .float .f64 e1) (by first | (with_reducible assumption) | simp [*])
    have x1211 := bkeep2 hb12 (p := ⟨w3.heap.size, 1, none⟩) (v := .float .f64 e2) (by first | (with_reducible assumption) | simp [*])
    have x1212 := bkeep2 hb12 (p := ⟨w3.heap.size, 2, none⟩) (v := .float .f64 e3) (by first | (with_reducible assumption) | simp [*])
    have x1213 := bkeep2 hb12 (p := ⟨w3.heap.size, 3, none⟩) (v := .float .f64 e4) (by first | (with_reducible assumption) | simp [*])
    have x1220 := bkeep2 hb12 (p := ⟨w6.heap.size, 0, none⟩) (v := .float .f64 y1) (by first | (with_reducible assumption) | simp [*])
    have x1221 := bkeep2 hb12 (p := ⟨w6.heap.size, 1, none⟩) (v := .float .f64 y2) (by first | (with_reducible assumption) | simp [*])
    have x1222 := bkeep2 hb12 (p := ⟨w6.heap.size, 2, none⟩) (v := .float .f64 y3) (by first | (with_reducible assumption) | simp [*])
    have x1223 := bkeep2 hb12 (p := ⟨w6.heap.size, 3, none⟩) (v := .float .f64 y4) (by first | (with_reducible assumption) | simp [*])
    have x1230 := bkeep2 hb12 (p := ⟨w7.heap.size, 0, none⟩) (v := .complex .f64 d1 d2) (by first | (with_reducible assumption) | simp [*])
    have x1231 := bkeep2 hb12 (p := ⟨w7.heap.size, 1, none⟩) (v := .float .f64 d3) (by first | (with_reducible assumption) | simp [*])
    rcases vm with _ | _
    · go_wp2_with fail; go_ret; refine ⟨rfl, ?_⟩; repeat (with_reducible first | exact Below.refl _ _ | assumption | refine Below.drew ?_ | refine bl_drewN ?_ _ | refine Below.setCell ?_ (by first | omega | (simp; done) | (simp; omega)) _ | refine Below.alloc ?_ (by first | omega | (simp; done) | (simp; omega)) _ | refine bl_next ?_ (by assumption) | refine bl_trans ?_ (by assumption) (by first | omega | (simp; done) | (simp; omega)))
    obtain ⟨un, sd1, sd2, sd3, sd4⟩ := t6 (by simp) (by simp)
    clear t6
    go_wp2_with fail
    go_at_call 82
    refine (sd1 _).mono ?_
    rintro e w13 ⟨rfl, hb13⟩
    have x1300 := bkeep2 hb13 (p := ⟨w1.heap.size, 0, none⟩) (v := .complex .f64 a b) (by first | (with_reducible assumption) | simp [*])
    have x1301 := bkeep2 hb13 (p := ⟨w1.heap.size, 1, none⟩) (v := .float .f64 r) (by first | (with_reducible assumption) | simp [*])
    have x1310 := bkeep2 hb13 (p := ⟨w3.heap.size, 0, none⟩) (v := .float .f64 e1) (by first | (with_reducible assumption) | simp [*])
    have x1311 := bkeep2 hb13 (p := ⟨w3.heap.size, 1, none⟩) (v := .float .f64 e2) (by first | (with_reducible assumption) | simp [*])
    have x1312 := bkeep2 hb13 (p := ⟨w3.heap.size, 2, none⟩) (v := .float .f64 e3) (by first | (with_reducible assumption) | simp [*])
    have x1313 := bkeep2 hb13 (p := ⟨w3.heap.size, 3, none⟩) (v := .float .f64 e4) (by first | (with_reducible assumption) | simp [*])
    have x1320 := bkeep2 hb13 (p := ⟨w6.heap.size, 0, none⟩) (v := .float .f64 y1) (by first | (with_reducible assumption) | simp [*])
    have x1321 := bkeep2 hb13 (p := ⟨w6.heap.size, 1, none⟩) (v := .float .f64 y2) (by first | (with_reducible assumption) | simp [*])
    have x1322 := bkeep2 hb13 (p := ⟨w6.heap.size, 2, none⟩) (v := .float .f64 y3) (by first | (with_reducible assumption) | simp [*])
    have x1323 := bkeep2 hb13 (p := ⟨w6.heap.size, 3, none⟩) (v := .float .f64 y4) (by first | (with_reducible assumption) | simp [*])
    have x1330 := bkeep2 hb13 (p := ⟨w7.heap.size, 0, none⟩) (v := .complex .f64 d1 d2) (by first | (with_reducible assumption) | simp [*])
    have x1331 := bkeep2 hb13 (p := ⟨w7.heap.size, 1, none⟩) (v := .float .f64 d3) (by first | (with_reducible assumption) | simp [*])
    go_wp2_with fail
    go_at_call 82
    refine (sd2 _).mono ?_
    rintro e w14 ⟨rfl, hb14⟩
    have x1400 := bkeep2 hb14 (p := ⟨w1.heap.size, 0, none⟩) (v := .complex .f64 a b) (by first | (with_reducible assumption) | simp [*])
    have x1401 := bkeep2 hb14 (p := ⟨w1.heap.size, 1, none⟩) (v := .float .f64 r) (by first | (with_reducible assumption) | simp [*])
    have x1410 := bkeep2 hb14 (p := ⟨w3.heap.size, 0, none⟩) (v := .float .f64 e1) (by first | (with_reducible assumption) | simp [*])
    have x1411 := bkeep2 hb14 (p := ⟨w3.heap.size, 1, none⟩) (v := .float .f64 e2) (by first | (with_reducible assumption) | simp [*])
    have x1412 := bkeep2 hb14 (p := ⟨w3.heap.size, 2, none⟩) (v := .float .f64 e3) (by first | (with_reducible assumption) | simp [*])
    have x1413 := bkeep2 hb14 (p := ⟨w3.heap.size, 3, none⟩) (v := .float .f64 e4) (by first | (with_reducible assumption) | simp [*])
    have x1420 := bkeep2 hb14 (p := ⟨w6.heap.size, 0, none⟩) (v := .float .f64 y1) (by first | (with_reducible assumption) | simp [*])
    have x1421 := bkeep2 hb14 (p := ⟨w6.heap.size, 1, none⟩) (v := .float .f64 y2) (by first | (with_reducible assumption) | simp [*])
    have x1422 := bkeep2 hb14 (p := ⟨w6.heap.size, 2, none⟩) (v := .float .f64 y3) (by first | (with_reducible assumption) | simp [*])
    have x1423 := bkeep2 hb14 (p := ⟨w6.heap.size, 3, none⟩) (v := .float .f64 y4) (by first | (with_reducible assumption) | simp [*])
    have x1430 := bkeep2 hb14 (p := ⟨w7.heap.size, 0, none⟩) (v := .complex .f64 d1 d2) (by first | (with_reducible assumption) | simp [*])
    have x1431 := bkeep2 hb14 (p := ⟨w7.heap.size, 1, none⟩) (v := .float .f64 d3) (by first | (with_reducible assumption) | simp [*])
    go_wp2_with fail
    go_at_call 82
    refine (sd3 _).mono ?_
    rintro e w15 ⟨rfl, hb15⟩
    have x1500 := bkeep2 hb15 (p := ⟨w1.heap.size, 0, none⟩) (v := .complex .f64 a b) (by first | (with_reducible assumption) | simp [*])
    have x1501 := bkeep2 hb15 (p := ⟨w1.heap.size, 1, none⟩) (v := .float .f64 r) (by first | (with_reducible assumption) | simp [*])
    have x1510 := bkeep2 hb15 (p := ⟨w3.heap.size, 0, none⟩) (v := .float .f64 e1) (by first | (with_reducible assumption) | simp [*])
    have x1511 := bkeep2 hb15 (p := ⟨w3.heap.size, 1, none⟩) (v := .float .f64 e2) (by first | (with_reducible assumption) | simp [*])
    have x1512 := bkeep2 hb15 (p := ⟨w3.heap.size, 2, none⟩) (v := .float .f64 e3) (by first | (with_reducible assumption) | simp [*])
    have x1513 := bkeep2 hb15 (p := ⟨w3.heap.size, 3, none⟩) (v := .float .f64 e4) (by first | (with_reducible assumption) | simp [*])
    have x1520 := bkeep2 hb15 (p := ⟨w6.heap.size, 0, none⟩) (v := .float .f64 y1) (by first | (with_reducible assumption) | simp [*])
    have x1521 := bkeep2 hb15 (p := ⟨w6.heap.size, 1, none⟩) (v := .float .f64 y2) (by first | (with_reducible assumption) | simp [*])
    have x1522 := bkeep2 hb15 (p := ⟨w6.heap.size, 2, none⟩) (v := .float .f64 y3) (by first | (with_reducible assumption) | simp [*])
    have x1523 := bkeep2 hb15 (p := ⟨w6.heap.size, 3, none⟩) (v := .float .f64 y4) (by first | (with_reducible assumption) | simp [*])
    have x1530 := bkeep2 hb15 (p := ⟨w7.heap.size, 0, none⟩) (v := .complex .f64 d1 d2) (by first | (with_reducible assumption) | simp [*])
    have x1531 := bkeep2 hb15 (p := ⟨w7.heap.size, 1, none⟩) (v := .float .f64 d3) (by first | (with_reducible assumption) | simp [*])
    go_wp2_with fail
    go_at_call 82
    refine (sd4 _).mono ?_
    rintro e w16 ⟨rfl, hb16⟩
    have x1600 := bkeep2 hb16 (p := ⟨w1.heap.size, 0, none⟩) (v := .complex .f64 a b) (by first | (with_reducible assumption) | simp [*])
    have x1601 := bkeep2 hb16 (p := ⟨w1.heap.size, 1, none⟩) (v := .float .f64 r) (by first | (with_reducible assumption) | simp [*])
    have x1610 := bkeep2 hb16 (p := ⟨w3.heap.size, 0, none⟩) (v := .float .f64 e1) (by first | (with_reducible assumption) | simp [*])
    have x1611 := bkeep2 hb16 (p := ⟨w3.heap.size, 1, none⟩) (v := .float .f64 e2) (by first | (with_reducible assumption) | simp [*])
    have x1612 := bkeep2 hb16 (p := ⟨w3.heap.size, 2, none⟩) (v := .float .f64 e3) (by first | (with_reducible assumption) | simp [*])
    have x1613 := bkeep2 hb16 (p := ⟨w3.heap.size, 3, none⟩) (v := .float .f64 e4) (by first | (with_reducible assumption) | simp [*])
    have x1620 := bkeep2 hb16 (p := ⟨w6.heap.size, 0, none⟩) (v := .float .f64 y1) (by first | (with_reducible assumption) | simp [*])
    have x1621 := bkeep2 hb16 (p := ⟨w6.heap.size, 1, none⟩) (v := .float .f64 y2) (by first | (with_reducible assumption) | simp [*])
    have x1622 := bkeep2 hb16 (p := ⟨w6.heap.size, 2, none⟩) (v := .float .f64 y3) (by first | (with_reducible assumption) | simp [*])
    have x1623 := bkeep2 hb16 (p := ⟨w6.heap.size, 3, none⟩) (v := .float .f64 y4) (by first | (with_reducible assumption) | simp [*])
    have x1630 := bkeep2 hb16 (p := ⟨w7.heap.size, 0, none⟩) (v := .complex .f64 d1 d2) (by first | (with_reducible assumption) | simp [*])
    have x1631 := bkeep2 hb16 (p := ⟨w7.heap.size, 1, none⟩) (v := .float .f64 d3) (by first | (with_reducible assumption) | simp [*])
    go_wp2_with fail
    go_ret
    refine ⟨rfl, ?_⟩
    repeat (with_reducible first | exact Below.refl _ _ | assumption | refine Below.drew ?_ | refine bl_drewN ?_ _ | refine Below.setCell ?_ (by first | omega | (simp; done) | (simp; omega)) _ | refine Below.alloc ?_ (by first | omega | (simp; done) | (simp; omega)) _ | refine bl_next ?_ (by assumption) | refine bl_trans ?_ (by assumption) (by first | omega | (simp; done) | (simp; omega)))

set_option maxRecDepth 100000 in
set_option maxHeartbeats 16000000 in
theorem turned_m_w (v : Value) (f : Nat → Nat) (p0 pi0 p pi : Int) (x xi y1 y2 y3 y4 d1 d2 d3 mm z1 z2 z3 z4 g1 g2 far : Nat)
    (w1 : ∀ w, Calls Try.prog 50 #[.int .i64 p0] w fun e w' => e = .returned (.int .i64 p) ∧ w' = w)
    (w2 : ∀ w, Calls Try.prog 50 #[.int .i64 pi0] w fun e w' => e = .returned (.int .i64 pi) ∧ w' = w)
    (bp : -1048576 ≤ p ∧ p ≤ 1048576) (bpi : -1048576 ≤ pi ∧ pi ≤ 1048576)
    (cx : floatOfInt .f64 (p) = x)
    (cxi : floatOfInt .f64 (pi) = xi)
    (Q : ∀ a b r : Nat, a < 18446744073709551616 → b < 18446744073709551616 → r < 18446744073709551616 → ∃ (v1 v2 vm : Bool) (e1 e2 e3 e4 nr : Nat), (∀ w, Calls Try.prog 66 #[.float .f64 x, .float .f64 xi, .agg #[.complex .f64 a b, .float .f64 r]] w fun e w' => e = .returned (.bool v1) ∧ Below w.heap.size w w') ∧ (∀ w, Calls Try.prog 76 #[.agg #[.complex .f64 a b, .float .f64 r]] w fun e w' => e = .returned (.agg #[.float .f64 e1, .float .f64 e2, .float .f64 e3, .float .f64 e4]) ∧ Below w.heap.size w w') ∧ (∀ w, Calls Try.prog 77 #[.float .f64 x, .float .f64 xi, .agg #[.float .f64 e1, .float .f64 e2, .float .f64 e3, .float .f64 e4]] w fun e w' => e = .returned (.bool v2) ∧ Below w.heap.size w w') ∧ (v1 = true → v2 = true) ∧ (∀ w, Calls Try.prog 73 #[.agg #[.complex .f64 a b, .float .f64 r]] w fun e w' => e = .returned (.bool vm) ∧ Below w.heap.size w w') ∧ (v1 = true → vm = true → (Op.unary .neg (.float .f64 r) = pure (.float .f64 nr)) ∧ (∀ w, Calls Try.prog 82 #[.float .f64 e1, .float .f64 a, .float .f64 nr] w fun e w' => e = .returned (.bool true) ∧ Below w.heap.size w w') ∧ (∀ w, Calls Try.prog 82 #[.float .f64 e2, .float .f64 a, .float .f64 r] w fun e w' => e = .returned (.bool true) ∧ Below w.heap.size w w') ∧ (∀ w, Calls Try.prog 82 #[.float .f64 e3, .float .f64 b, .float .f64 nr] w fun e w' => e = .returned (.bool true) ∧ Below w.heap.size w w') ∧ (∀ w, Calls Try.prog 82 #[.float .f64 e4, .float .f64 b, .float .f64 r] w fun e w' => e = .returned (.bool true) ∧ Below w.heap.size w w')))
    (r1 : ∀ w, Calls Try.prog 51 #[.float .f64 x, .float .f64 (f 3), .float .f64 (f 4)] w fun e w' => e = .returned (.agg #[.float .f64 y1, .float .f64 y2]) ∧ Below w.heap.size w w')
    (r2 : ∀ w, Calls Try.prog 51 #[.float .f64 xi, .float .f64 (f 5), .float .f64 (f 6)] w fun e w' => e = .returned (.agg #[.float .f64 y3, .float .f64 y4]) ∧ Below w.heap.size w w')
    (td : ∀ w, Calls Try.prog 78 #[.agg #[.float .f64 y1, .float .f64 y2, .float .f64 y3, .float .f64 y4]] w fun e w' => e = .returned (.agg #[.complex .f64 d1 d2, .float .f64 d3]) ∧ Below w.heap.size w w')
    (id : ∀ w, Calls Try.prog 66 #[.float .f64 x, .float .f64 xi, .agg #[.complex .f64 d1 d2, .float .f64 d3]] w fun e w' => e = .returned (.bool true) ∧ Below w.heap.size w w')
    (fo : ∀ w, Calls Try.prog 70 #[.agg #[.complex .f64 d1 d2, .float .f64 d3]] w fun e w' => e = .returned (.bool true) ∧ Below w.heap.size w w')
    (lx : ∀ w, Calls Try.prog 79 #[.float .f64 4607182418800017408, .int .i64 300] w fun e w' => e = .returned (.float .f64 mm) ∧ w' = w)
    (a1 : ∀ w, Calls Try.prog 53 #[.float .f64 y1] w fun e w' => e = .returned (.float .f64 z1) ∧ Below w.heap.size w w')
    (a2 : ∀ w, Calls Try.prog 53 #[.float .f64 y2] w fun e w' => e = .returned (.float .f64 z2) ∧ Below w.heap.size w w')
    (a3 : ∀ w, Calls Try.prog 53 #[.float .f64 y3] w fun e w' => e = .returned (.float .f64 z3) ∧ Below w.heap.size w w')
    (a4 : ∀ w, Calls Try.prog 53 #[.float .f64 y4] w fun e w' => e = .returned (.float .f64 z4) ∧ Below w.heap.size w w')
    (x1 : ∀ w, Calls Try.prog 80 #[.float .f64 z1, .float .f64 z2] w fun e w' => e = .returned (.float .f64 g1) ∧ Below w.heap.size w w')
    (x2 : ∀ w, Calls Try.prog 80 #[.float .f64 z3, .float .f64 z4] w fun e w' => e = .returned (.float .f64 g2) ∧ Below w.heap.size w w')
    (x3 : ∀ w, Calls Try.prog 80 #[.float .f64 g1, .float .f64 g2] w fun e w' => e = .returned (.float .f64 far) ∧ Below w.heap.size w w')
    (lf : (Ieee.double.order far mm == some .lt || Ieee.double.order far mm == some .eq) = false)
    (i1 : ∀ w, Calls Try.prog 29 #[.float .f64 far, .int .i64 1] w fun e w' => e = .returned (.bool false) ∧ w' = w)
    (hf : ∀ i, f i < 18446744073709551616)
    (w : World) (hl : Lst w v f) :
    Calls Try.prog 14 #[.int .i64 p0, .int .i64 pi0, v] w fun e w' => e = .returned (.bool true) ∧ Below w.heap.size w w' := by
  go_enter Try.func14, Try.ntmps14
  go_wp2_with fail
  go_at_call 50
  refine (w1 _).mono ?_
  rintro e w' ⟨rfl, rfl⟩
  go_wp2_with fail
  go_at_call 50
  refine (w2 _).mono ?_
  rintro e w' ⟨rfl, rfl⟩
  go_wp2_with fail
  go_at_call 65
  refine (at_n hl 0 0 rfl (by decide)).mono ?_
  rintro e w' ⟨rfl, rfl⟩
  go_wp2_with fail
  go_at_call 65
  refine (at_n hl 1 1 rfl (by decide)).mono ?_
  rintro e w' ⟨rfl, rfl⟩
  go_wp2_with fail
  go_at_call 65
  refine (at_n hl 2 2 rfl (by decide)).mono ?_
  rintro e w' ⟨rfl, rfl⟩
  go_wp2_with fail
  go_at_call 64
  refine (about_any _ _ _ _ _ (hf 0) (hf 1) (hf 2) _).mono ?_
  rintro e w1 ⟨⟨a, b, r, rfl, ba, bb, br⟩, hb1⟩
  have s1 := hb1.size
  try simp at s1
  have hl1 := (hl.below hb1).below (bl_alloc (o := .cells #[.complex .f64 a b, .float .f64 r] 55) (Below.refl _ _))
  obtain ⟨v1, v2, vm, e1, e2, e3, e4, nr, t1, t2, t3, t4, t5, t6⟩ := Q a b r ba bb br
  clear Q hf ba bb br
  go_wp2_with fail
  go_at_call 66
  refine (t1 _).mono ?_
  rintro e w2 ⟨rfl, hb2⟩
  have s2 := hb2.size
  try simp at s2
  have d20 : w2.cell? ⟨w1.heap.size, 0, none⟩ = some (.complex .f64 a b) := bkeep2 hb2 (by simp [go_sem])
  have d21 : w2.cell? ⟨w1.heap.size, 1, none⟩ = some (.float .f64 r) := bkeep2 hb2 (by simp [go_sem])
  have l0 : w1.heap.size < w2.heap.size := cell_lt d20
  replace hl1 := hl1.below hb2
  go_wp2_with fail
  go_at_call 76
  refine (t2 _).mono ?_
  rintro e w3 ⟨rfl, hb3⟩
  have s3 := hb3.size
  try simp at s3
  replace d20 := bkeep2 hb3 d20
  replace d21 := bkeep2 hb3 d21
  have l0 : w1.heap.size < w3.heap.size := cell_lt d20
  replace hl1 := (hl1.below hb3).below (bl_alloc (o := .cells #[.float .f64 e1, .float .f64 e2, .float .f64 e3, .float .f64 e4] 47) (Below.refl _ _))
  go_wp2_with fail
  go_at_call 77
  refine (t3 _).mono ?_
  rintro e w4 ⟨rfl, hb4⟩
  have s4 := hb4.size
  try simp at s4
  replace d20 := bkeep3 hb4 d20
  replace d21 := bkeep3 hb4 d21
  have d40 : w4.cell? ⟨w3.heap.size, 0, none⟩ = some (.float .f64 e1) := bkeep2 hb4 (by simp [go_sem])
  have d41 : w4.cell? ⟨w3.heap.size, 1, none⟩ = some (.float .f64 e2) := bkeep2 hb4 (by simp [go_sem])
  have d42 : w4.cell? ⟨w3.heap.size, 2, none⟩ = some (.float .f64 e3) := bkeep2 hb4 (by simp [go_sem])
  have d43 : w4.cell? ⟨w3.heap.size, 3, none⟩ = some (.float .f64 e4) := bkeep2 hb4 (by simp [go_sem])
  have l0 : w1.heap.size < w4.heap.size := cell_lt d20
  have l1 : w3.heap.size < w4.heap.size := cell_lt d40
  replace hl1 := hl1.below hb4
  rcases v1 with _ | _
  · clear t4
    go_wp2_with fail
    go_at_call 65
    refine (at_n hl1 3 3 rfl (by decide)).mono ?_
    rintro e w' ⟨rfl, rfl⟩
    go_wp2_with fail
    go_at_call 65
    refine (at_n hl1 4 4 rfl (by decide)).mono ?_
    rintro e w' ⟨rfl, rfl⟩
    go_wp2_with fail
    go_at_call 51
    refine (r1 _).mono ?_
    rintro e w5 ⟨rfl, hb5⟩
    have s5 := hb5.size
    try simp at s5
    replace d20 := bkeep2 hb5 d20
    replace d21 := bkeep2 hb5 d21
    replace d40 := bkeep2 hb5 d40
    replace d41 := bkeep2 hb5 d41
    replace d42 := bkeep2 hb5 d42
    replace d43 := bkeep2 hb5 d43
    have l0 : w1.heap.size < w5.heap.size := cell_lt d20
    have l1 : w3.heap.size < w5.heap.size := cell_lt d40
    replace hl1 := hl1.below hb5
    go_wp2_with fail
    go_at_call 65
    refine (at_n hl1 5 5 rfl (by decide)).mono ?_
    rintro e w' ⟨rfl, rfl⟩
    go_wp2_with fail
    go_at_call 65
    refine (at_n hl1 6 6 rfl (by decide)).mono ?_
    rintro e w' ⟨rfl, rfl⟩
    go_wp2_with fail
    go_at_call 51
    refine (r2 _).mono ?_
    rintro e w6 ⟨rfl, hb6⟩
    have s6 := hb6.size
    try simp at s6
    replace d20 := bkeep2 hb6 d20
    replace d21 := bkeep2 hb6 d21
    replace d40 := bkeep2 hb6 d40
    replace d41 := bkeep2 hb6 d41
    replace d42 := bkeep2 hb6 d42
    replace d43 := bkeep2 hb6 d43
    have l0 : w1.heap.size < w6.heap.size := cell_lt d20
    have l1 : w3.heap.size < w6.heap.size := cell_lt d40
    go_wp2_with fail
    clear hl1 hl
    go_at_call 78
    refine (td _).mono ?_
    rintro e w7 ⟨rfl, hb7⟩
    have s7 := hb7.size
    try simp at s7
    replace d20 := bkeep3 hb7 d20
    replace d21 := bkeep3 hb7 d21
    replace d40 := bkeep3 hb7 d40
    replace d41 := bkeep3 hb7 d41
    replace d42 := bkeep3 hb7 d42
    replace d43 := bkeep3 hb7 d43
    have d70 : w7.cell? ⟨w6.heap.size, 0, none⟩ = some (.float .f64 y1) := bkeep2 hb7 (by simp [go_sem])
    have d71 : w7.cell? ⟨w6.heap.size, 1, none⟩ = some (.float .f64 y2) := bkeep2 hb7 (by simp [go_sem])
    have d72 : w7.cell? ⟨w6.heap.size, 2, none⟩ = some (.float .f64 y3) := bkeep2 hb7 (by simp [go_sem])
    have d73 : w7.cell? ⟨w6.heap.size, 3, none⟩ = some (.float .f64 y4) := bkeep2 hb7 (by simp [go_sem])
    have l0 : w1.heap.size < w7.heap.size := cell_lt d20
    have l1 : w3.heap.size < w7.heap.size := cell_lt d40
    have l2 : w6.heap.size < w7.heap.size := cell_lt d70
    go_wp2_with fail
    go_at_call 66
    refine (id _).mono ?_
    rintro e w8 ⟨rfl, hb8⟩
    have s8 := hb8.size
    try simp at s8
    replace d20 := bkeep3 hb8 d20
    replace d21 := bkeep3 hb8 d21
    replace d40 := bkeep3 hb8 d40
    replace d41 := bkeep3 hb8 d41
    replace d42 := bkeep3 hb8 d42
    replace d43 := bkeep3 hb8 d43
    replace d70 := bkeep3 hb8 d70
    replace d71 := bkeep3 hb8 d71
    replace d72 := bkeep3 hb8 d72
    replace d73 := bkeep3 hb8 d73
    have d80 : w8.cell? ⟨w7.heap.size, 0, none⟩ = some (.complex .f64 d1 d2) := bkeep2 hb8 (by simp [go_sem])
    have d81 : w8.cell? ⟨w7.heap.size, 1, none⟩ = some (.float .f64 d3) := bkeep2 hb8 (by simp [go_sem])
    have l0 : w1.heap.size < w8.heap.size := cell_lt d20
    have l1 : w3.heap.size < w8.heap.size := cell_lt d40
    have l2 : w6.heap.size < w8.heap.size := cell_lt d70
    have l3 : w7.heap.size < w8.heap.size := cell_lt d80
    go_wp2_with fail
    go_at_call 70
    refine (fo _).mono ?_
    rintro e w9 ⟨rfl, hb9⟩
    have s9 := hb9.size
    try simp at s9
    replace d20 := bkeep2 hb9 d20
    replace d21 := bkeep2 hb9 d21
    replace d40 := bkeep2 hb9 d40
    replace d41 := bkeep2 hb9 d41
    replace d42 := bkeep2 hb9 d42
    replace d43 := bkeep2 hb9 d43
    replace d70 := bkeep2 hb9 d70
    replace d71 := bkeep2 hb9 d71
    replace d72 := bkeep2 hb9 d72
    replace d73 := bkeep2 hb9 d73
    replace d80 := bkeep2 hb9 d80
    replace d81 := bkeep2 hb9 d81
    have l0 : w1.heap.size < w9.heap.size := cell_lt d20
    have l1 : w3.heap.size < w9.heap.size := cell_lt d40
    have l2 : w6.heap.size < w9.heap.size := cell_lt d70
    have l3 : w7.heap.size < w9.heap.size := cell_lt d80
    go_wp2_with fail
    go_at_call 79
    refine (lx _).mono ?_
    rintro e w' ⟨rfl, rfl⟩
    go_wp2_with fail
    go_region_held3 (fun w' => w'.cell? ⟨w6.heap.size, 0, none⟩ = some (.float .f64 y1) ∧ w'.cell? ⟨w6.heap.size, 1, none⟩ = some (.float .f64 y2) ∧ w'.cell? ⟨w6.heap.size, 2, none⟩ = some (.float .f64 y3) ∧ w'.cell? ⟨w6.heap.size, 3, none⟩ = some (.float .f64 y4) ∧ w'.cell? ⟨w7.heap.size, 0, none⟩ = some (.complex .f64 d1 d2) ∧ w'.cell? ⟨w7.heap.size, 1, none⟩ = some (.float .f64 d3)) (((try dsimp only); (try go_split_ands); (repeat' apply And.intro) <;> first | (with_reducible assumption) | (rw []; (with_reducible assumption)) | (with_reducible refine bkeep2 hb ?_; first | (with_reducible assumption) | (simp [*]; done)) | go_keep)) (first | (go_at_call 53; with_reducible refine (a1 _).mono ?_; rintro e w' ⟨rfl, hb⟩) | (go_at_call 53; with_reducible refine (a2 _).mono ?_; rintro e w' ⟨rfl, hb⟩) | (go_at_call 53; with_reducible refine (a3 _).mono ?_; rintro e w' ⟨rfl, hb⟩) | (go_at_call 53; with_reducible refine (a4 _).mono ?_; rintro e w' ⟨rfl, hb⟩) | (go_at_call 80; with_reducible refine (x1 _).mono ?_; rintro e w' ⟨rfl, hb⟩) | (go_at_call 80; with_reducible refine (x2 _).mono ?_; rintro e w' ⟨rfl, hb⟩) | (go_at_call 80; with_reducible refine (x3 _).mono ?_; rintro e w' ⟨rfl, hb⟩))
    go_wp2_with fail
    go_at_call 29
    refine (i1 _).mono ?_
    rintro e w' ⟨rfl, rfl⟩
    go_wp2_with fail
    go_ret
    refine ⟨rfl, ?_⟩
    repeat (with_reducible first | exact Below.refl _ _ | assumption | refine Below.drew ?_ | refine bl_drewN ?_ _ | refine Below.setCell ?_ (by first | omega | (simp; done) | (simp; omega)) _ | refine Below.alloc ?_ (by first | omega | (simp; done) | (simp; omega)) _ | refine bl_next ?_ (by assumption) | refine bl_trans ?_ (by assumption) (by first | omega | (simp; done) | (simp; omega)))
  · have tv := t4 rfl
    subst tv
    clear t4
    go_wp2_with fail
    go_at_call 65
    refine (at_n hl1 3 3 rfl (by decide)).mono ?_
    rintro e w' ⟨rfl, rfl⟩
    go_wp2_with fail
    go_at_call 65
    refine (at_n hl1 4 4 rfl (by decide)).mono ?_
    rintro e w' ⟨rfl, rfl⟩
    go_wp2_with fail
    go_at_call 51
    refine (r1 _).mono ?_
    rintro e w5 ⟨rfl, hb5⟩
    have s5 := hb5.size
    try simp at s5
    replace d20 := bkeep2 hb5 d20
    replace d21 := bkeep2 hb5 d21
    replace d40 := bkeep2 hb5 d40
    replace d41 := bkeep2 hb5 d41
    replace d42 := bkeep2 hb5 d42
    replace d43 := bkeep2 hb5 d43
    have l0 : w1.heap.size < w5.heap.size := cell_lt d20
    have l1 : w3.heap.size < w5.heap.size := cell_lt d40
    replace hl1 := hl1.below hb5
    go_wp2_with fail
    go_at_call 65
    refine (at_n hl1 5 5 rfl (by decide)).mono ?_
    rintro e w' ⟨rfl, rfl⟩
    go_wp2_with fail
    go_at_call 65
    refine (at_n hl1 6 6 rfl (by decide)).mono ?_
    rintro e w' ⟨rfl, rfl⟩
    go_wp2_with fail
    go_at_call 51
    refine (r2 _).mono ?_
    rintro e w6 ⟨rfl, hb6⟩
    have s6 := hb6.size
    try simp at s6
    replace d20 := bkeep2 hb6 d20
    replace d21 := bkeep2 hb6 d21
    replace d40 := bkeep2 hb6 d40
    replace d41 := bkeep2 hb6 d41
    replace d42 := bkeep2 hb6 d42
    replace d43 := bkeep2 hb6 d43
    have l0 : w1.heap.size < w6.heap.size := cell_lt d20
    have l1 : w3.heap.size < w6.heap.size := cell_lt d40
    go_wp2_with fail
    clear hl1 hl
    go_at_call 78
    refine (td _).mono ?_
    rintro e w7 ⟨rfl, hb7⟩
    have s7 := hb7.size
    try simp at s7
    replace d20 := bkeep3 hb7 d20
    replace d21 := bkeep3 hb7 d21
    replace d40 := bkeep3 hb7 d40
    replace d41 := bkeep3 hb7 d41
    replace d42 := bkeep3 hb7 d42
    replace d43 := bkeep3 hb7 d43
    have d70 : w7.cell? ⟨w6.heap.size, 0, none⟩ = some (.float .f64 y1) := bkeep2 hb7 (by simp [go_sem])
    have d71 : w7.cell? ⟨w6.heap.size, 1, none⟩ = some (.float .f64 y2) := bkeep2 hb7 (by simp [go_sem])
    have d72 : w7.cell? ⟨w6.heap.size, 2, none⟩ = some (.float .f64 y3) := bkeep2 hb7 (by simp [go_sem])
    have d73 : w7.cell? ⟨w6.heap.size, 3, none⟩ = some (.float .f64 y4) := bkeep2 hb7 (by simp [go_sem])
    have l0 : w1.heap.size < w7.heap.size := cell_lt d20
    have l1 : w3.heap.size < w7.heap.size := cell_lt d40
    have l2 : w6.heap.size < w7.heap.size := cell_lt d70
    go_wp2_with fail
    go_at_call 66
    refine (id _).mono ?_
    rintro e w8 ⟨rfl, hb8⟩
    have s8 := hb8.size
    try simp at s8
    replace d20 := bkeep3 hb8 d20
    replace d21 := bkeep3 hb8 d21
    replace d40 := bkeep3 hb8 d40
    replace d41 := bkeep3 hb8 d41
    replace d42 := bkeep3 hb8 d42
    replace d43 := bkeep3 hb8 d43
    replace d70 := bkeep3 hb8 d70
    replace d71 := bkeep3 hb8 d71
    replace d72 := bkeep3 hb8 d72
    replace d73 := bkeep3 hb8 d73
    have d80 : w8.cell? ⟨w7.heap.size, 0, none⟩ = some (.complex .f64 d1 d2) := bkeep2 hb8 (by simp [go_sem])
    have d81 : w8.cell? ⟨w7.heap.size, 1, none⟩ = some (.float .f64 d3) := bkeep2 hb8 (by simp [go_sem])
    have l0 : w1.heap.size < w8.heap.size := cell_lt d20
    have l1 : w3.heap.size < w8.heap.size := cell_lt d40
    have l2 : w6.heap.size < w8.heap.size := cell_lt d70
    have l3 : w7.heap.size < w8.heap.size := cell_lt d80
    go_wp2_with fail
    go_at_call 70
    refine (fo _).mono ?_
    rintro e w9 ⟨rfl, hb9⟩
    have s9 := hb9.size
    try simp at s9
    replace d20 := bkeep2 hb9 d20
    replace d21 := bkeep2 hb9 d21
    replace d40 := bkeep2 hb9 d40
    replace d41 := bkeep2 hb9 d41
    replace d42 := bkeep2 hb9 d42
    replace d43 := bkeep2 hb9 d43
    replace d70 := bkeep2 hb9 d70
    replace d71 := bkeep2 hb9 d71
    replace d72 := bkeep2 hb9 d72
    replace d73 := bkeep2 hb9 d73
    replace d80 := bkeep2 hb9 d80
    replace d81 := bkeep2 hb9 d81
    have l0 : w1.heap.size < w9.heap.size := cell_lt d20
    have l1 : w3.heap.size < w9.heap.size := cell_lt d40
    have l2 : w6.heap.size < w9.heap.size := cell_lt d70
    have l3 : w7.heap.size < w9.heap.size := cell_lt d80
    go_wp2_with fail
    go_at_call 79
    refine (lx _).mono ?_
    rintro e w' ⟨rfl, rfl⟩
    go_wp2_with fail
    go_region_held3 (fun w' => w'.cell? ⟨w1.heap.size, 0, none⟩ = some (.complex .f64 a b) ∧ w'.cell? ⟨w1.heap.size, 1, none⟩ = some (.float .f64 r) ∧ w'.cell? ⟨w3.heap.size, 0, none⟩ = some (.float .f64 e1) ∧ w'.cell? ⟨w3.heap.size, 1, none⟩ = some (.float .f64 e2) ∧ w'.cell? ⟨w3.heap.size, 2, none⟩ = some (.float .f64 e3) ∧ w'.cell? ⟨w3.heap.size, 3, none⟩ = some (.float .f64 e4) ∧ w'.cell? ⟨w6.heap.size, 0, none⟩ = some (.float .f64 y1) ∧ w'.cell? ⟨w6.heap.size, 1, none⟩ = some (.float .f64 y2) ∧ w'.cell? ⟨w6.heap.size, 2, none⟩ = some (.float .f64 y3) ∧ w'.cell? ⟨w6.heap.size, 3, none⟩ = some (.float .f64 y4) ∧ w'.cell? ⟨w7.heap.size, 0, none⟩ = some (.complex .f64 d1 d2) ∧ w'.cell? ⟨w7.heap.size, 1, none⟩ = some (.float .f64 d3)) (((try dsimp only); (try go_split_ands); (repeat' apply And.intro) <;> first | (with_reducible assumption) | (rw []; (with_reducible assumption)) | (with_reducible refine bkeep2 hb ?_; first | (with_reducible assumption) | (simp [*]; done)) | go_keep)) (first | (go_at_call 53; with_reducible refine (a1 _).mono ?_; rintro e w' ⟨rfl, hb⟩) | (go_at_call 53; with_reducible refine (a2 _).mono ?_; rintro e w' ⟨rfl, hb⟩) | (go_at_call 53; with_reducible refine (a3 _).mono ?_; rintro e w' ⟨rfl, hb⟩) | (go_at_call 53; with_reducible refine (a4 _).mono ?_; rintro e w' ⟨rfl, hb⟩) | (go_at_call 80; with_reducible refine (x1 _).mono ?_; rintro e w' ⟨rfl, hb⟩) | (go_at_call 80; with_reducible refine (x2 _).mono ?_; rintro e w' ⟨rfl, hb⟩) | (go_at_call 80; with_reducible refine (x3 _).mono ?_; rintro e w' ⟨rfl, hb⟩))
    go_wp2_with fail
    go_at_call 29
    refine (i1 _).mono ?_
    rintro e w' ⟨rfl, rfl⟩
    go_wp2_with fail
    go_at_call 73
    refine (t5 _).mono ?_
    rintro e w10 ⟨rfl, hb10⟩
    have x1000 := bkeep2 hb10 (p := ⟨w1.heap.size, 0, none⟩) (v := .complex .f64 a b) (by first | (with_reducible assumption) | simp [*])
    have x1001 := bkeep2 hb10 (p := ⟨w1.heap.size, 1, none⟩) (v := .float .f64 r) (by first | (with_reducible assumption) | simp [*])
    have x1010 := bkeep2 hb10 (p := ⟨w3.heap.size, 0, none⟩) (v := .float .f64 e1) (by first | (with_reducible assumption) | simp [*])
    have x1011 := bkeep2 hb10 (p := ⟨w3.heap.size, 1, none⟩) (v := .float .f64 e2) (by first | (with_reducible assumption) | simp [*])
    have x1012 := bkeep2 hb10 (p := ⟨w3.heap.size, 2, none⟩) (v := .float .f64 e3) (by first | (with_reducible assumption) | simp [*])
    have x1013 := bkeep2 hb10 (p := ⟨w3.heap.size, 3, none⟩) (v := .float .f64 e4) (by first | (with_reducible assumption) | simp [*])
    have x1020 := bkeep2 hb10 (p := ⟨w6.heap.size, 0, none⟩) (v := .float .f64 y1) (by first | (with_reducible assumption) | simp [*])
    have x1021 := bkeep2 hb10 (p := ⟨w6.heap.size, 1, none⟩) (v := .float .f64 y2) (by first | (with_reducible assumption) | simp [*])
    have x1022 := bkeep2 hb10 (p := ⟨w6.heap.size, 2, none⟩) (v := .float .f64 y3) (by first | (with_reducible assumption) | simp [*])
    have x1023 := bkeep2 hb10 (p := ⟨w6.heap.size, 3, none⟩) (v := .float .f64 y4) (by first | (with_reducible assumption) | simp [*])
    have x1030 := bkeep2 hb10 (p := ⟨w7.heap.size, 0, none⟩) (v := .complex .f64 d1 d2) (by first | (with_reducible assumption) | simp [*])
    have x1031 := bkeep2 hb10 (p := ⟨w7.heap.size, 1, none⟩) (v := .float .f64 d3) (by first | (with_reducible assumption) | simp [*])
    rcases vm with _ | _
    · go_wp2_with fail; go_ret; refine ⟨rfl, ?_⟩; repeat (with_reducible first | exact Below.refl _ _ | assumption | refine Below.drew ?_ | refine bl_drewN ?_ _ | refine Below.setCell ?_ (by first | omega | (simp; done) | (simp; omega)) _ | refine Below.alloc ?_ (by first | omega | (simp; done) | (simp; omega)) _ | refine bl_next ?_ (by assumption) | refine bl_trans ?_ (by assumption) (by first | omega | (simp; done) | (simp; omega)))
    obtain ⟨un, sd1, sd2, sd3, sd4⟩ := t6 (by simp) (by simp)
    clear t6
    go_wp2_with fail
    go_at_call 82
    refine (sd1 _).mono ?_
    rintro e w11 ⟨rfl, hb11⟩
    have x1100 := bkeep2 hb11 (p := ⟨w1.heap.size, 0, none⟩) (v := .complex .f64 a b) (by first | (with_reducible assumption) | simp [*])
    have x1101 := bkeep2 hb11 (p := ⟨w1.heap.size, 1, none⟩) (v := .float .f64 r) (by first | (with_reducible assumption) | simp [*])
    have x1110 := bkeep2 hb11 (p := ⟨w3.heap.size, 0, none⟩) (v := .float .f64 e1) (by first | (with_reducible assumption) | simp [*])
    have x1111 := bkeep2 hb11 (p := ⟨w3.heap.size, 1, none⟩) (v := .float .f64 e2) (by first | (with_reducible assumption) | simp [*])
    have x1112 := bkeep2 hb11 (p := ⟨w3.heap.size, 2, none⟩) (v := .float .f64 e3) (by first | (with_reducible assumption) | simp [*])
    have x1113 := bkeep2 hb11 (p := ⟨w3.heap.size, 3, none⟩) (v := .float .f64 e4) (by first | (with_reducible assumption) | simp [*])
    have x1120 := bkeep2 hb11 (p := ⟨w6.heap.size, 0, none⟩) (v := .float .f64 y1) (by first | (with_reducible assumption) | simp [*])
    have x1121 := bkeep2 hb11 (p := ⟨w6.heap.size, 1, none⟩) (v := .float .f64 y2) (by first | (with_reducible assumption) | simp [*])
    have x1122 := bkeep2 hb11 (p := ⟨w6.heap.size, 2, none⟩) (v := .float .f64 y3) (by first | (with_reducible assumption) | simp [*])
    have x1123 := bkeep2 hb11 (p := ⟨w6.heap.size, 3, none⟩) (v := .float .f64 y4) (by first | (with_reducible assumption) | simp [*])
    have x1130 := bkeep2 hb11 (p := ⟨w7.heap.size, 0, none⟩) (v := .complex .f64 d1 d2) (by first | (with_reducible assumption) | simp [*])
    have x1131 := bkeep2 hb11 (p := ⟨w7.heap.size, 1, none⟩) (v := .float .f64 d3) (by first | (with_reducible assumption) | simp [*])
    go_wp2_with fail
    go_at_call 82
    refine (sd2 _).mono ?_
    rintro e w12 ⟨rfl, hb12⟩
    have x1200 := bkeep2 hb12 (p := ⟨w1.heap.size, 0, none⟩) (v := .complex .f64 a b) (by first | (with_reducible assumption) | simp [*])
    have x1201 := bkeep2 hb12 (p := ⟨w1.heap.size, 1, none⟩) (v := .float .f64 r) (by first | (with_reducible assumption) | simp [*])
    have x1210 := bkeep2 hb12 (p := ⟨w3.heap.size, 0, none⟩) (v := .float .f64 e1) (by first | (with_reducible assumption) | simp [*])
    have x1211 := bkeep2 hb12 (p := ⟨w3.heap.size, 1, none⟩) (v := .float .f64 e2) (by first | (with_reducible assumption) | simp [*])
    have x1212 := bkeep2 hb12 (p := ⟨w3.heap.size, 2, none⟩) (v := .float .f64 e3) (by first | (with_reducible assumption) | simp [*])
    have x1213 := bkeep2 hb12 (p := ⟨w3.heap.size, 3, none⟩) (v := .float .f64 e4) (by first | (with_reducible assumption) | simp [*])
    have x1220 := bkeep2 hb12 (p := ⟨w6.heap.size, 0, none⟩) (v := .float .f64 y1) (by first | (with_reducible assumption) | simp [*])
    have x1221 := bkeep2 hb12 (p := ⟨w6.heap.size, 1, none⟩) (v := .float .f64 y2) (by first | (with_reducible assumption) | simp [*])
    have x1222 := bkeep2 hb12 (p := ⟨w6.heap.size, 2, none⟩) (v := .float .f64 y3) (by first | (with_reducible assumption) | simp [*])
    have x1223 := bkeep2 hb12 (p := ⟨w6.heap.size, 3, none⟩) (v := .float .f64 y4) (by first | (with_reducible assumption) | simp [*])
    have x1230 := bkeep2 hb12 (p := ⟨w7.heap.size, 0, none⟩) (v := .complex .f64 d1 d2) (by first | (with_reducible assumption) | simp [*])
    have x1231 := bkeep2 hb12 (p := ⟨w7.heap.size, 1, none⟩) (v := .float .f64 d3) (by first | (with_reducible assumption) | simp [*])
    go_wp2_with fail
    go_at_call 82
    refine (sd3 _).mono ?_
    rintro e w13 ⟨rfl, hb13⟩
    have x1300 := bkeep2 hb13 (p := ⟨w1.heap.size, 0, none⟩) (v := .complex .f64 a b) (by first | (with_reducible assumption) | simp [*])
    have x1301 := bkeep2 hb13 (p := ⟨w1.heap.size, 1, none⟩) (v := .float .f64 r) (by first | (with_reducible assumption) | simp [*])
    have x1310 := bkeep2 hb13 (p := ⟨w3.heap.size, 0, none⟩) (v := .float .f64 e1) (by first | (with_reducible assumption) | simp [*])
    have x1311 := bkeep2 hb13 (p := ⟨w3.heap.size, 1, none⟩) (v := .float .f64 e2) (by first | (with_reducible assumption) | simp [*])
    have x1312 := bkeep2 hb13 (p := ⟨w3.heap.size, 2, none⟩) (v := .float .f64 e3) (by first | (with_reducible assumption) | simp [*])
    have x1313 := bkeep2 hb13 (p := ⟨w3.heap.size, 3, none⟩) (v := .float .f64 e4) (by first | (with_reducible assumption) | simp [*])
    have x1320 := bkeep2 hb13 (p := ⟨w6.heap.size, 0, none⟩) (v := .float .f64 y1) (by first | (with_reducible assumption) | simp [*])
    have x1321 := bkeep2 hb13 (p := ⟨w6.heap.size, 1, none⟩) (v := .float .f64 y2) (by first | (with_reducible assumption) | simp [*])
    have x1322 := bkeep2 hb13 (p := ⟨w6.heap.size, 2, none⟩) (v := .float .f64 y3) (by first | (with_reducible assumption) | simp [*])
    have x1323 := bkeep2 hb13 (p := ⟨w6.heap.size, 3, none⟩) (v := .float .f64 y4) (by first | (with_reducible assumption) | simp [*])
    have x1330 := bkeep2 hb13 (p := ⟨w7.heap.size, 0, none⟩) (v := .complex .f64 d1 d2) (by first | (with_reducible assumption) | simp [*])
    have x1331 := bkeep2 hb13 (p := ⟨w7.heap.size, 1, none⟩) (v := .float .f64 d3) (by first | (with_reducible assumption) | simp [*])
    go_wp2_with fail
    go_at_call 82
    refine (sd4 _).mono ?_
    rintro e w14 ⟨rfl, hb14⟩
    have x1400 := bkeep2 hb14 (p := ⟨w1.heap.size, 0, none⟩) (v := .complex .f64 a b) (by first | (with_reducible assumption) | simp [*])
    have x1401 := bkeep2 hb14 (p := ⟨w1.heap.size, 1, none⟩) (v := .float .f64 r) (by first | (with_reducible assumption) | simp [*])
    have x1410 := bkeep2 hb14 (p := ⟨w3.heap.size, 0, none⟩) (v := .float .f64 e1) (by first | (with_reducible assumption) | simp [*])
    have x1411 := bkeep2 hb14 (p := ⟨w3.heap.size, 1, none⟩) (v := .float .f64 e2) (by first | (with_reducible assumption) | simp [*])
    have x1412 := bkeep2 hb14 (p := ⟨w3.heap.size, 2, none⟩) (v := .float .f64 e3) (by first | (with_reducible assumption) | simp [*])
    have x1413 := bkeep2 hb14 (p := ⟨w3.heap.size, 3, none⟩) (v := .float .f64 e4) (by first | (with_reducible assumption) | simp [*])
    have x1420 := bkeep2 hb14 (p := ⟨w6.heap.size, 0, none⟩) (v := .float .f64 y1) (by first | (with_reducible assumption) | simp [*])
    have x1421 := bkeep2 hb14 (p := ⟨w6.heap.size, 1, none⟩) (v := .float .f64 y2) (by first | (with_reducible assumption) | simp [*])
    have x1422 := bkeep2 hb14 (p := ⟨w6.heap.size, 2, none⟩) (v := .float .f64 y3) (by first | (with_reducible assumption) | simp [*])
    have x1423 := bkeep2 hb14 (p := ⟨w6.heap.size, 3, none⟩) (v := .float .f64 y4) (by first | (with_reducible assumption) | simp [*])
    have x1430 := bkeep2 hb14 (p := ⟨w7.heap.size, 0, none⟩) (v := .complex .f64 d1 d2) (by first | (with_reducible assumption) | simp [*])
    have x1431 := bkeep2 hb14 (p := ⟨w7.heap.size, 1, none⟩) (v := .float .f64 d3) (by first | (with_reducible assumption) | simp [*])
    go_wp2_with fail
    go_ret
    refine ⟨rfl, ?_⟩
    repeat (with_reducible first | exact Below.refl _ _ | assumption | refine Below.drew ?_ | refine bl_drewN ?_ _ | refine Below.setCell ?_ (by first | omega | (simp; done) | (simp; omega)) _ | refine Below.alloc ?_ (by first | omega | (simp; done) | (simp; omega)) _ | refine bl_next ?_ (by assumption) | refine bl_trans ?_ (by assumption) (by first | omega | (simp; done) | (simp; omega)))

set_option maxRecDepth 100000 in
set_option maxHeartbeats 16000000 in
theorem turned_i_w (v : Value) (f : Nat → Nat) (p0 pi0 p pi : Int) (x xi y1 y2 y3 y4 d1 d2 d3 mm z1 z2 z3 z4 g1 g2 far : Nat)
    (w1 : ∀ w, Calls Try.prog 50 #[.int .i64 p0] w fun e w' => e = .returned (.int .i64 p) ∧ w' = w)
    (w2 : ∀ w, Calls Try.prog 50 #[.int .i64 pi0] w fun e w' => e = .returned (.int .i64 pi) ∧ w' = w)
    (bp : -1048576 ≤ p ∧ p ≤ 1048576) (bpi : -1048576 ≤ pi ∧ pi ≤ 1048576)
    (cx : floatOfInt .f64 (p) = x)
    (cxi : floatOfInt .f64 (pi) = xi)
    (Q : ∀ a b r : Nat, a < 18446744073709551616 → b < 18446744073709551616 → r < 18446744073709551616 → ∃ (v1 v2 vm : Bool) (e1 e2 e3 e4 nr : Nat), (∀ w, Calls Try.prog 66 #[.float .f64 x, .float .f64 xi, .agg #[.complex .f64 a b, .float .f64 r]] w fun e w' => e = .returned (.bool v1) ∧ Below w.heap.size w w') ∧ (∀ w, Calls Try.prog 76 #[.agg #[.complex .f64 a b, .float .f64 r]] w fun e w' => e = .returned (.agg #[.float .f64 e1, .float .f64 e2, .float .f64 e3, .float .f64 e4]) ∧ Below w.heap.size w w') ∧ (∀ w, Calls Try.prog 77 #[.float .f64 x, .float .f64 xi, .agg #[.float .f64 e1, .float .f64 e2, .float .f64 e3, .float .f64 e4]] w fun e w' => e = .returned (.bool v2) ∧ Below w.heap.size w w') ∧ (v1 = true → v2 = true) ∧ (∀ w, Calls Try.prog 73 #[.agg #[.complex .f64 a b, .float .f64 r]] w fun e w' => e = .returned (.bool vm) ∧ Below w.heap.size w w') ∧ (v1 = true → vm = true → (Op.unary .neg (.float .f64 r) = pure (.float .f64 nr)) ∧ (∀ w, Calls Try.prog 82 #[.float .f64 e1, .float .f64 a, .float .f64 nr] w fun e w' => e = .returned (.bool true) ∧ Below w.heap.size w w') ∧ (∀ w, Calls Try.prog 82 #[.float .f64 e2, .float .f64 a, .float .f64 r] w fun e w' => e = .returned (.bool true) ∧ Below w.heap.size w w') ∧ (∀ w, Calls Try.prog 82 #[.float .f64 e3, .float .f64 b, .float .f64 nr] w fun e w' => e = .returned (.bool true) ∧ Below w.heap.size w w') ∧ (∀ w, Calls Try.prog 82 #[.float .f64 e4, .float .f64 b, .float .f64 r] w fun e w' => e = .returned (.bool true) ∧ Below w.heap.size w w')))
    (r1 : ∀ w, Calls Try.prog 51 #[.float .f64 x, .float .f64 (f 3), .float .f64 (f 4)] w fun e w' => e = .returned (.agg #[.float .f64 y1, .float .f64 y2]) ∧ Below w.heap.size w w')
    (r2 : ∀ w, Calls Try.prog 51 #[.float .f64 xi, .float .f64 (f 5), .float .f64 (f 6)] w fun e w' => e = .returned (.agg #[.float .f64 y3, .float .f64 y4]) ∧ Below w.heap.size w w')
    (td : ∀ w, Calls Try.prog 78 #[.agg #[.float .f64 y1, .float .f64 y2, .float .f64 y3, .float .f64 y4]] w fun e w' => e = .returned (.agg #[.complex .f64 d1 d2, .float .f64 d3]) ∧ Below w.heap.size w w')
    (id : ∀ w, Calls Try.prog 66 #[.float .f64 x, .float .f64 xi, .agg #[.complex .f64 d1 d2, .float .f64 d3]] w fun e w' => e = .returned (.bool true) ∧ Below w.heap.size w w')
    (fo : ∀ w, Calls Try.prog 70 #[.agg #[.complex .f64 d1 d2, .float .f64 d3]] w fun e w' => e = .returned (.bool true) ∧ Below w.heap.size w w')
    (lx : ∀ w, Calls Try.prog 79 #[.float .f64 4607182418800017408, .int .i64 300] w fun e w' => e = .returned (.float .f64 mm) ∧ w' = w)
    (a1 : ∀ w, Calls Try.prog 53 #[.float .f64 y1] w fun e w' => e = .returned (.float .f64 z1) ∧ Below w.heap.size w w')
    (a2 : ∀ w, Calls Try.prog 53 #[.float .f64 y2] w fun e w' => e = .returned (.float .f64 z2) ∧ Below w.heap.size w w')
    (a3 : ∀ w, Calls Try.prog 53 #[.float .f64 y3] w fun e w' => e = .returned (.float .f64 z3) ∧ Below w.heap.size w w')
    (a4 : ∀ w, Calls Try.prog 53 #[.float .f64 y4] w fun e w' => e = .returned (.float .f64 z4) ∧ Below w.heap.size w w')
    (x1 : ∀ w, Calls Try.prog 80 #[.float .f64 z1, .float .f64 z2] w fun e w' => e = .returned (.float .f64 g1) ∧ Below w.heap.size w w')
    (x2 : ∀ w, Calls Try.prog 80 #[.float .f64 z3, .float .f64 z4] w fun e w' => e = .returned (.float .f64 g2) ∧ Below w.heap.size w w')
    (x3 : ∀ w, Calls Try.prog 80 #[.float .f64 g1, .float .f64 g2] w fun e w' => e = .returned (.float .f64 far) ∧ Below w.heap.size w w')
    (lf : (Ieee.double.order far mm == some .lt || Ieee.double.order far mm == some .eq) = false)
    (i1 : ∀ w, Calls Try.prog 29 #[.float .f64 far, .int .i64 1] w fun e w' => e = .returned (.bool true) ∧ w' = w)
    (i2 : ∀ w, Calls Try.prog 29 #[.float .f64 d3, .int .i64 1] w fun e w' => e = .returned (.bool true) ∧ w' = w)
    (hf : ∀ i, f i < 18446744073709551616)
    (w : World) (hl : Lst w v f) :
    Calls Try.prog 14 #[.int .i64 p0, .int .i64 pi0, v] w fun e w' => e = .returned (.bool true) ∧ Below w.heap.size w w' := by
  go_enter Try.func14, Try.ntmps14
  go_wp2_with fail
  go_at_call 50
  refine (w1 _).mono ?_
  rintro e w' ⟨rfl, rfl⟩
  go_wp2_with fail
  go_at_call 50
  refine (w2 _).mono ?_
  rintro e w' ⟨rfl, rfl⟩
  go_wp2_with fail
  go_at_call 65
  refine (at_n hl 0 0 rfl (by decide)).mono ?_
  rintro e w' ⟨rfl, rfl⟩
  go_wp2_with fail
  go_at_call 65
  refine (at_n hl 1 1 rfl (by decide)).mono ?_
  rintro e w' ⟨rfl, rfl⟩
  go_wp2_with fail
  go_at_call 65
  refine (at_n hl 2 2 rfl (by decide)).mono ?_
  rintro e w' ⟨rfl, rfl⟩
  go_wp2_with fail
  go_at_call 64
  refine (about_any _ _ _ _ _ (hf 0) (hf 1) (hf 2) _).mono ?_
  rintro e w1 ⟨⟨a, b, r, rfl, ba, bb, br⟩, hb1⟩
  have s1 := hb1.size
  try simp at s1
  have hl1 := (hl.below hb1).below (bl_alloc (o := .cells #[.complex .f64 a b, .float .f64 r] 55) (Below.refl _ _))
  obtain ⟨v1, v2, vm, e1, e2, e3, e4, nr, t1, t2, t3, t4, t5, t6⟩ := Q a b r ba bb br
  clear Q hf ba bb br
  go_wp2_with fail
  go_at_call 66
  refine (t1 _).mono ?_
  rintro e w2 ⟨rfl, hb2⟩
  have s2 := hb2.size
  try simp at s2
  have d20 : w2.cell? ⟨w1.heap.size, 0, none⟩ = some (.complex .f64 a b) := bkeep2 hb2 (by simp [go_sem])
  have d21 : w2.cell? ⟨w1.heap.size, 1, none⟩ = some (.float .f64 r) := bkeep2 hb2 (by simp [go_sem])
  have l0 : w1.heap.size < w2.heap.size := cell_lt d20
  replace hl1 := hl1.below hb2
  go_wp2_with fail
  go_at_call 76
  refine (t2 _).mono ?_
  rintro e w3 ⟨rfl, hb3⟩
  have s3 := hb3.size
  try simp at s3
  replace d20 := bkeep2 hb3 d20
  replace d21 := bkeep2 hb3 d21
  have l0 : w1.heap.size < w3.heap.size := cell_lt d20
  replace hl1 := (hl1.below hb3).below (bl_alloc (o := .cells #[.float .f64 e1, .float .f64 e2, .float .f64 e3, .float .f64 e4] 47) (Below.refl _ _))
  go_wp2_with fail
  go_at_call 77
  refine (t3 _).mono ?_
  rintro e w4 ⟨rfl, hb4⟩
  have s4 := hb4.size
  try simp at s4
  replace d20 := bkeep3 hb4 d20
  replace d21 := bkeep3 hb4 d21
  have d40 : w4.cell? ⟨w3.heap.size, 0, none⟩ = some (.float .f64 e1) := bkeep2 hb4 (by simp [go_sem])
  have d41 : w4.cell? ⟨w3.heap.size, 1, none⟩ = some (.float .f64 e2) := bkeep2 hb4 (by simp [go_sem])
  have d42 : w4.cell? ⟨w3.heap.size, 2, none⟩ = some (.float .f64 e3) := bkeep2 hb4 (by simp [go_sem])
  have d43 : w4.cell? ⟨w3.heap.size, 3, none⟩ = some (.float .f64 e4) := bkeep2 hb4 (by simp [go_sem])
  have l0 : w1.heap.size < w4.heap.size := cell_lt d20
  have l1 : w3.heap.size < w4.heap.size := cell_lt d40
  replace hl1 := hl1.below hb4
  rcases v1 with _ | _
  · clear t4
    go_wp2_with fail
    go_at_call 65
    refine (at_n hl1 3 3 rfl (by decide)).mono ?_
    rintro e w' ⟨rfl, rfl⟩
    go_wp2_with fail
    go_at_call 65
    refine (at_n hl1 4 4 rfl (by decide)).mono ?_
    rintro e w' ⟨rfl, rfl⟩
    go_wp2_with fail
    go_at_call 51
    refine (r1 _).mono ?_
    rintro e w5 ⟨rfl, hb5⟩
    have s5 := hb5.size
    try simp at s5
    replace d20 := bkeep2 hb5 d20
    replace d21 := bkeep2 hb5 d21
    replace d40 := bkeep2 hb5 d40
    replace d41 := bkeep2 hb5 d41
    replace d42 := bkeep2 hb5 d42
    replace d43 := bkeep2 hb5 d43
    have l0 : w1.heap.size < w5.heap.size := cell_lt d20
    have l1 : w3.heap.size < w5.heap.size := cell_lt d40
    replace hl1 := hl1.below hb5
    go_wp2_with fail
    go_at_call 65
    refine (at_n hl1 5 5 rfl (by decide)).mono ?_
    rintro e w' ⟨rfl, rfl⟩
    go_wp2_with fail
    go_at_call 65
    refine (at_n hl1 6 6 rfl (by decide)).mono ?_
    rintro e w' ⟨rfl, rfl⟩
    go_wp2_with fail
    go_at_call 51
    refine (r2 _).mono ?_
    rintro e w6 ⟨rfl, hb6⟩
    have s6 := hb6.size
    try simp at s6
    replace d20 := bkeep2 hb6 d20
    replace d21 := bkeep2 hb6 d21
    replace d40 := bkeep2 hb6 d40
    replace d41 := bkeep2 hb6 d41
    replace d42 := bkeep2 hb6 d42
    replace d43 := bkeep2 hb6 d43
    have l0 : w1.heap.size < w6.heap.size := cell_lt d20
    have l1 : w3.heap.size < w6.heap.size := cell_lt d40
    go_wp2_with fail
    clear hl1 hl
    go_at_call 78
    refine (td _).mono ?_
    rintro e w7 ⟨rfl, hb7⟩
    have s7 := hb7.size
    try simp at s7
    replace d20 := bkeep3 hb7 d20
    replace d21 := bkeep3 hb7 d21
    replace d40 := bkeep3 hb7 d40
    replace d41 := bkeep3 hb7 d41
    replace d42 := bkeep3 hb7 d42
    replace d43 := bkeep3 hb7 d43
    have d70 : w7.cell? ⟨w6.heap.size, 0, none⟩ = some (.float .f64 y1) := bkeep2 hb7 (by simp [go_sem])
    have d71 : w7.cell? ⟨w6.heap.size, 1, none⟩ = some (.float .f64 y2) := bkeep2 hb7 (by simp [go_sem])
    have d72 : w7.cell? ⟨w6.heap.size, 2, none⟩ = some (.float .f64 y3) := bkeep2 hb7 (by simp [go_sem])
    have d73 : w7.cell? ⟨w6.heap.size, 3, none⟩ = some (.float .f64 y4) := bkeep2 hb7 (by simp [go_sem])
    have l0 : w1.heap.size < w7.heap.size := cell_lt d20
    have l1 : w3.heap.size < w7.heap.size := cell_lt d40
    have l2 : w6.heap.size < w7.heap.size := cell_lt d70
    go_wp2_with fail
    go_at_call 66
    refine (id _).mono ?_
    rintro e w8 ⟨rfl, hb8⟩
    have s8 := hb8.size
    try simp at s8
    replace d20 := bkeep3 hb8 d20
    replace d21 := bkeep3 hb8 d21
    replace d40 := bkeep3 hb8 d40
    replace d41 := bkeep3 hb8 d41
    replace d42 := bkeep3 hb8 d42
    replace d43 := bkeep3 hb8 d43
    replace d70 := bkeep3 hb8 d70
    replace d71 := bkeep3 hb8 d71
    replace d72 := bkeep3 hb8 d72
    replace d73 := bkeep3 hb8 d73
    have d80 : w8.cell? ⟨w7.heap.size, 0, none⟩ = some (.complex .f64 d1 d2) := bkeep2 hb8 (by simp [go_sem])
    have d81 : w8.cell? ⟨w7.heap.size, 1, none⟩ = some (.float .f64 d3) := bkeep2 hb8 (by simp [go_sem])
    have l0 : w1.heap.size < w8.heap.size := cell_lt d20
    have l1 : w3.heap.size < w8.heap.size := cell_lt d40
    have l2 : w6.heap.size < w8.heap.size := cell_lt d70
    have l3 : w7.heap.size < w8.heap.size := cell_lt d80
    go_wp2_with fail
    go_at_call 70
    refine (fo _).mono ?_
    rintro e w9 ⟨rfl, hb9⟩
    have s9 := hb9.size
    try simp at s9
    replace d20 := bkeep2 hb9 d20
    replace d21 := bkeep2 hb9 d21
    replace d40 := bkeep2 hb9 d40
    replace d41 := bkeep2 hb9 d41
    replace d42 := bkeep2 hb9 d42
    replace d43 := bkeep2 hb9 d43
    replace d70 := bkeep2 hb9 d70
    replace d71 := bkeep2 hb9 d71
    replace d72 := bkeep2 hb9 d72
    replace d73 := bkeep2 hb9 d73
    replace d80 := bkeep2 hb9 d80
    replace d81 := bkeep2 hb9 d81
    have l0 : w1.heap.size < w9.heap.size := cell_lt d20
    have l1 : w3.heap.size < w9.heap.size := cell_lt d40
    have l2 : w6.heap.size < w9.heap.size := cell_lt d70
    have l3 : w7.heap.size < w9.heap.size := cell_lt d80
    go_wp2_with fail
    go_at_call 79
    refine (lx _).mono ?_
    rintro e w' ⟨rfl, rfl⟩
    go_wp2_with fail
    go_region_held3 (fun w' => w'.cell? ⟨w6.heap.size, 0, none⟩ = some (.float .f64 y1) ∧ w'.cell? ⟨w6.heap.size, 1, none⟩ = some (.float .f64 y2) ∧ w'.cell? ⟨w6.heap.size, 2, none⟩ = some (.float .f64 y3) ∧ w'.cell? ⟨w6.heap.size, 3, none⟩ = some (.float .f64 y4) ∧ w'.cell? ⟨w7.heap.size, 0, none⟩ = some (.complex .f64 d1 d2) ∧ w'.cell? ⟨w7.heap.size, 1, none⟩ = some (.float .f64 d3)) (((try dsimp only); (try go_split_ands); (repeat' apply And.intro) <;> first | (with_reducible assumption) | (rw []; (with_reducible assumption)) | (with_reducible refine bkeep2 hb ?_; first | (with_reducible assumption) | (simp [*]; done)) | go_keep)) (first | (go_at_call 53; with_reducible refine (a1 _).mono ?_; rintro e w' ⟨rfl, hb⟩) | (go_at_call 53; with_reducible refine (a2 _).mono ?_; rintro e w' ⟨rfl, hb⟩) | (go_at_call 53; with_reducible refine (a3 _).mono ?_; rintro e w' ⟨rfl, hb⟩) | (go_at_call 53; with_reducible refine (a4 _).mono ?_; rintro e w' ⟨rfl, hb⟩) | (go_at_call 80; with_reducible refine (x1 _).mono ?_; rintro e w' ⟨rfl, hb⟩) | (go_at_call 80; with_reducible refine (x2 _).mono ?_; rintro e w' ⟨rfl, hb⟩) | (go_at_call 80; with_reducible refine (x3 _).mono ?_; rintro e w' ⟨rfl, hb⟩))
    go_wp2_with fail
    go_at_call 29
    refine (i1 _).mono ?_
    rintro e w' ⟨rfl, rfl⟩
    go_wp2_with fail
    go_at_call 29
    refine (i2 _).mono ?_
    rintro e w' ⟨rfl, rfl⟩
    go_wp2_with fail
    go_ret
    refine ⟨rfl, ?_⟩
    repeat (with_reducible first | exact Below.refl _ _ | assumption | refine Below.drew ?_ | refine bl_drewN ?_ _ | refine Below.setCell ?_ (by first | omega | (simp; done) | (simp; omega)) _ | refine Below.alloc ?_ (by first | omega | (simp; done) | (simp; omega)) _ | refine bl_next ?_ (by assumption) | refine bl_trans ?_ (by assumption) (by first | omega | (simp; done) | (simp; omega)))
  · have tv := t4 rfl
    subst tv
    clear t4
    go_wp2_with fail
    go_at_call 65
    refine (at_n hl1 3 3 rfl (by decide)).mono ?_
    rintro e w' ⟨rfl, rfl⟩
    go_wp2_with fail
    go_at_call 65
    refine (at_n hl1 4 4 rfl (by decide)).mono ?_
    rintro e w' ⟨rfl, rfl⟩
    go_wp2_with fail
    go_at_call 51
    refine (r1 _).mono ?_
    rintro e w5 ⟨rfl, hb5⟩
    have s5 := hb5.size
    try simp at s5
    replace d20 := bkeep2 hb5 d20
    replace d21 := bkeep2 hb5 d21
    replace d40 := bkeep2 hb5 d40
    replace d41 := bkeep2 hb5 d41
    replace d42 := bkeep2 hb5 d42
    replace d43 := bkeep2 hb5 d43
    have l0 : w1.heap.size < w5.heap.size := cell_lt d20
    have l1 : w3.heap.size < w5.heap.size := cell_lt d40
    replace hl1 := hl1.below hb5
    go_wp2_with fail
    go_at_call 65
    refine (at_n hl1 5 5 rfl (by decide)).mono ?_
    rintro e w' ⟨rfl, rfl⟩
    go_wp2_with fail
    go_at_call 65
    refine (at_n hl1 6 6 rfl (by decide)).mono ?_
    rintro e w' ⟨rfl, rfl⟩
    go_wp2_with fail
    go_at_call 51
    refine (r2 _).mono ?_
    rintro e w6 ⟨rfl, hb6⟩
    have s6 := hb6.size
    try simp at s6
    replace d20 := bkeep2 hb6 d20
    replace d21 := bkeep2 hb6 d21
    replace d40 := bkeep2 hb6 d40
    replace d41 := bkeep2 hb6 d41
    replace d42 := bkeep2 hb6 d42
    replace d43 := bkeep2 hb6 d43
    have l0 : w1.heap.size < w6.heap.size := cell_lt d20
    have l1 : w3.heap.size < w6.heap.size := cell_lt d40
    go_wp2_with fail
    clear hl1 hl
    go_at_call 78
    refine (td _).mono ?_
    rintro e w7 ⟨rfl, hb7⟩
    have s7 := hb7.size
    try simp at s7
    replace d20 := bkeep3 hb7 d20
    replace d21 := bkeep3 hb7 d21
    replace d40 := bkeep3 hb7 d40
    replace d41 := bkeep3 hb7 d41
    replace d42 := bkeep3 hb7 d42
    replace d43 := bkeep3 hb7 d43
    have d70 : w7.cell? ⟨w6.heap.size, 0, none⟩ = some (.float .f64 y1) := bkeep2 hb7 (by simp [go_sem])
    have d71 : w7.cell? ⟨w6.heap.size, 1, none⟩ = some (.float .f64 y2) := bkeep2 hb7 (by simp [go_sem])
    have d72 : w7.cell? ⟨w6.heap.size, 2, none⟩ = some (.float .f64 y3) := bkeep2 hb7 (by simp [go_sem])
    have d73 : w7.cell? ⟨w6.heap.size, 3, none⟩ = some (.float .f64 y4) := bkeep2 hb7 (by simp [go_sem])
    have l0 : w1.heap.size < w7.heap.size := cell_lt d20
    have l1 : w3.heap.size < w7.heap.size := cell_lt d40
    have l2 : w6.heap.size < w7.heap.size := cell_lt d70
    go_wp2_with fail
    go_at_call 66
    refine (id _).mono ?_
    rintro e w8 ⟨rfl, hb8⟩
    have s8 := hb8.size
    try simp at s8
    replace d20 := bkeep3 hb8 d20
    replace d21 := bkeep3 hb8 d21
    replace d40 := bkeep3 hb8 d40
    replace d41 := bkeep3 hb8 d41
    replace d42 := bkeep3 hb8 d42
    replace d43 := bkeep3 hb8 d43
    replace d70 := bkeep3 hb8 d70
    replace d71 := bkeep3 hb8 d71
    replace d72 := bkeep3 hb8 d72
    replace d73 := bkeep3 hb8 d73
    have d80 : w8.cell? ⟨w7.heap.size, 0, none⟩ = some (.complex .f64 d1 d2) := bkeep2 hb8 (by simp [go_sem])
    have d81 : w8.cell? ⟨w7.heap.size, 1, none⟩ = some (.float .f64 d3) := bkeep2 hb8 (by simp [go_sem])
    have l0 : w1.heap.size < w8.heap.size := cell_lt d20
    have l1 : w3.heap.size < w8.heap.size := cell_lt d40
    have l2 : w6.heap.size < w8.heap.size := cell_lt d70
    have l3 : w7.heap.size < w8.heap.size := cell_lt d80
    go_wp2_with fail
    go_at_call 70
    refine (fo _).mono ?_
    rintro e w9 ⟨rfl, hb9⟩
    have s9 := hb9.size
    try simp at s9
    replace d20 := bkeep2 hb9 d20
    replace d21 := bkeep2 hb9 d21
    replace d40 := bkeep2 hb9 d40
    replace d41 := bkeep2 hb9 d41
    replace d42 := bkeep2 hb9 d42
    replace d43 := bkeep2 hb9 d43
    replace d70 := bkeep2 hb9 d70
    replace d71 := bkeep2 hb9 d71
    replace d72 := bkeep2 hb9 d72
    replace d73 := bkeep2 hb9 d73
    replace d80 := bkeep2 hb9 d80
    replace d81 := bkeep2 hb9 d81
    have l0 : w1.heap.size < w9.heap.size := cell_lt d20
    have l1 : w3.heap.size < w9.heap.size := cell_lt d40
    have l2 : w6.heap.size < w9.heap.size := cell_lt d70
    have l3 : w7.heap.size < w9.heap.size := cell_lt d80
    go_wp2_with fail
    go_at_call 79
    refine (lx _).mono ?_
    rintro e w' ⟨rfl, rfl⟩
    go_wp2_with fail
    go_region_held3 (fun w' => w'.cell? ⟨w1.heap.size, 0, none⟩ = some (.complex .f64 a b) ∧ w'.cell? ⟨w1.heap.size, 1, none⟩ = some (.float .f64 r) ∧ w'.cell? ⟨w3.heap.size, 0, none⟩ = some (.float .f64 e1) ∧ w'.cell? ⟨w3.heap.size, 1, none⟩ = some (.float .f64 e2) ∧ w'.cell? ⟨w3.heap.size, 2, none⟩ = some (.float .f64 e3) ∧ w'.cell? ⟨w3.heap.size, 3, none⟩ = some (.float .f64 e4) ∧ w'.cell? ⟨w6.heap.size, 0, none⟩ = some (.float .f64 y1) ∧ w'.cell? ⟨w6.heap.size, 1, none⟩ = some (.float .f64 y2) ∧ w'.cell? ⟨w6.heap.size, 2, none⟩ = some (.float .f64 y3) ∧ w'.cell? ⟨w6.heap.size, 3, none⟩ = some (.float .f64 y4) ∧ w'.cell? ⟨w7.heap.size, 0, none⟩ = some (.complex .f64 d1 d2) ∧ w'.cell? ⟨w7.heap.size, 1, none⟩ = some (.float .f64 d3)) (((try dsimp only); (try go_split_ands); (repeat' apply And.intro) <;> first | (with_reducible assumption) | (rw []; (with_reducible assumption)) | (with_reducible refine bkeep2 hb ?_; first | (with_reducible assumption) | (simp [*]; done)) | go_keep)) (first | (go_at_call 53; with_reducible refine (a1 _).mono ?_; rintro e w' ⟨rfl, hb⟩) | (go_at_call 53; with_reducible refine (a2 _).mono ?_; rintro e w' ⟨rfl, hb⟩) | (go_at_call 53; with_reducible refine (a3 _).mono ?_; rintro e w' ⟨rfl, hb⟩) | (go_at_call 53; with_reducible refine (a4 _).mono ?_; rintro e w' ⟨rfl, hb⟩) | (go_at_call 80; with_reducible refine (x1 _).mono ?_; rintro e w' ⟨rfl, hb⟩) | (go_at_call 80; with_reducible refine (x2 _).mono ?_; rintro e w' ⟨rfl, hb⟩) | (go_at_call 80; with_reducible refine (x3 _).mono ?_; rintro e w' ⟨rfl, hb⟩))
    go_wp2_with fail
    go_at_call 29
    refine (i1 _).mono ?_
    rintro e w' ⟨rfl, rfl⟩
    go_wp2_with fail
    go_at_call 29
    refine (i2 _).mono ?_
    rintro e w' ⟨rfl, rfl⟩
    go_wp2_with fail
    go_at_call 73
    refine (t5 _).mono ?_
    rintro e w10 ⟨rfl, hb10⟩
    have x1000 := bkeep2 hb10 (p := ⟨w1.heap.size, 0, none⟩) (v := .complex .f64 a b) (by first | (with_reducible assumption) | simp [*])
    have x1001 := bkeep2 hb10 (p := ⟨w1.heap.size, 1, none⟩) (v := .float .f64 r) (by first | (with_reducible assumption) | simp [*])
    have x1010 := bkeep2 hb10 (p := ⟨w3.heap.size, 0, none⟩) (v := .float .f64 e1) (by first | (with_reducible assumption) | simp [*])
    have x1011 := bkeep2 hb10 (p := ⟨w3.heap.size, 1, none⟩) (v := .float .f64 e2) (by first | (with_reducible assumption) | simp [*])
    have x1012 := bkeep2 hb10 (p := ⟨w3.heap.size, 2, none⟩) (v := .float .f64 e3) (by first | (with_reducible assumption) | simp [*])
    have x1013 := bkeep2 hb10 (p := ⟨w3.heap.size, 3, none⟩) (v := .float .f64 e4) (by first | (with_reducible assumption) | simp [*])
    have x1020 := bkeep2 hb10 (p := ⟨w6.heap.size, 0, none⟩) (v := .float .f64 y1) (by first | (with_reducible assumption) | simp [*])
    have x1021 := bkeep2 hb10 (p := ⟨w6.heap.size, 1, none⟩) (v := .float .f64 y2) (by first | (with_reducible assumption) | simp [*])
    have x1022 := bkeep2 hb10 (p := ⟨w6.heap.size, 2, none⟩) (v := .float .f64 y3) (by first | (with_reducible assumption) | simp [*])
    have x1023 := bkeep2 hb10 (p := ⟨w6.heap.size, 3, none⟩) (v := .float .f64 y4) (by first | (with_reducible assumption) | simp [*])
    have x1030 := bkeep2 hb10 (p := ⟨w7.heap.size, 0, none⟩) (v := .complex .f64 d1 d2) (by first | (with_reducible assumption) | simp [*])
    have x1031 := bkeep2 hb10 (p := ⟨w7.heap.size, 1, none⟩) (v := .float .f64 d3) (by first | (with_reducible assumption) | simp [*])
    rcases vm with _ | _
    · go_wp2_with fail; go_ret; refine ⟨rfl, ?_⟩; repeat (with_reducible first | exact Below.refl _ _ | assumption | refine Below.drew ?_ | refine bl_drewN ?_ _ | refine Below.setCell ?_ (by first | omega | (simp; done) | (simp; omega)) _ | refine Below.alloc ?_ (by first | omega | (simp; done) | (simp; omega)) _ | refine bl_next ?_ (by assumption) | refine bl_trans ?_ (by assumption) (by first | omega | (simp; done) | (simp; omega)))
    obtain ⟨un, sd1, sd2, sd3, sd4⟩ := t6 (by simp) (by simp)
    clear t6
    go_wp2_with fail
    go_at_call 82
    refine (sd1 _).mono ?_
    rintro e w11 ⟨rfl, hb11⟩
    have x1100 := bkeep2 hb11 (p := ⟨w1.heap.size, 0, none⟩) (v := .complex .f64 a b) (by first | (with_reducible assumption) | simp [*])
    have x1101 := bkeep2 hb11 (p := ⟨w1.heap.size, 1, none⟩) (v := .float .f64 r) (by first | (with_reducible assumption) | simp [*])
    have x1110 := bkeep2 hb11 (p := ⟨w3.heap.size, 0, none⟩) (v := .float .f64 e1) (by first | (with_reducible assumption) | simp [*])
    have x1111 := bkeep2 hb11 (p := ⟨w3.heap.size, 1, none⟩) (v := .float .f64 e2) (by first | (with_reducible assumption) | simp [*])
    have x1112 := bkeep2 hb11 (p := ⟨w3.heap.size, 2, none⟩) (v := .float .f64 e3) (by first | (with_reducible assumption) | simp [*])
    have x1113 := bkeep2 hb11 (p := ⟨w3.heap.size, 3, none⟩) (v := .float .f64 e4) (by first | (with_reducible assumption) | simp [*])
    have x1120 := bkeep2 hb11 (p := ⟨w6.heap.size, 0, none⟩) (v := .float .f64 y1) (by first | (with_reducible assumption) | simp [*])
    have x1121 := bkeep2 hb11 (p := ⟨w6.heap.size, 1, none⟩) (v := .float .f64 y2) (by first | (with_reducible assumption) | simp [*])
    have x1122 := bkeep2 hb11 (p := ⟨w6.heap.size, 2, none⟩) (v := .float .f64 y3) (by first | (with_reducible assumption) | simp [*])
    have x1123 := bkeep2 hb11 (p := ⟨w6.heap.size, 3, none⟩) (v := .float .f64 y4) (by first | (with_reducible assumption) | simp [*])
    have x1130 := bkeep2 hb11 (p := ⟨w7.heap.size, 0, none⟩) (v := .complex .f64 d1 d2) (by first | (with_reducible assumption) | simp [*])
    have x1131 := bkeep2 hb11 (p := ⟨w7.heap.size, 1, none⟩) (v := .float .f64 d3) (by first | (with_reducible assumption) | simp [*])
    go_wp2_with fail
    go_at_call 82
    refine (sd2 _).mono ?_
    rintro e w12 ⟨rfl, hb12⟩
    have x1200 := bkeep2 hb12 (p := ⟨w1.heap.size, 0, none⟩) (v := .complex .f64 a b) (by first | (with_reducible assumption) | simp [*])
    have x1201 := bkeep2 hb12 (p := ⟨w1.heap.size, 1, none⟩) (v := .float .f64 r) (by first | (with_reducible assumption) | simp [*])
    have x1210 := bkeep2 hb12 (p := ⟨w3.heap.size, 0, none⟩) (v := .float .f64 e1) (by first | (with_reducible assumption) | simp [*])
    have x1211 := bkeep2 hb12 (p := ⟨w3.heap.size, 1, none⟩) (v := .float .f64 e2) (by first | (with_reducible assumption) | simp [*])
    have x1212 := bkeep2 hb12 (p := ⟨w3.heap.size, 2, none⟩) (v := .float .f64 e3) (by first | (with_reducible assumption) | simp [*])
    have x1213 := bkeep2 hb12 (p := ⟨w3.heap.size, 3, none⟩) (v := .float .f64 e4) (by first | (with_reducible assumption) | simp [*])
    have x1220 := bkeep2 hb12 (p := ⟨w6.heap.size, 0, none⟩) (v := .float .f64 y1) (by first | (with_reducible assumption) | simp [*])
    have x1221 := bkeep2 hb12 (p := ⟨w6.heap.size, 1, none⟩) (v := .float .f64 y2) (by first | (with_reducible assumption) | simp [*])
    have x1222 := bkeep2 hb12 (p := ⟨w6.heap.size, 2, none⟩) (v := .float .f64 y3) (by first | (with_reducible assumption) | simp [*])
    have x1223 := bkeep2 hb12 (p := ⟨w6.heap.size, 3, none⟩) (v := .float .f64 y4) (by first | (with_reducible assumption) | simp [*])
    have x1230 := bkeep2 hb12 (p := ⟨w7.heap.size, 0, none⟩) (v := .complex .f64 d1 d2) (by first | (with_reducible assumption) | simp [*])
    have x1231 := bkeep2 hb12 (p := ⟨w7.heap.size, 1, none⟩) (v := .float .f64 d3) (by first | (with_reducible assumption) | simp [*])
    go_wp2_with fail
    go_at_call 82
    refine (sd3 _).mono ?_
    rintro e w13 ⟨rfl, hb13⟩
    have x1300 := bkeep2 hb13 (p := ⟨w1.heap.size, 0, none⟩) (v := .complex .f64 a b) (by first | (with_reducible assumption) | simp [*])
    have x1301 := bkeep2 hb13 (p := ⟨w1.heap.size, 1, none⟩) (v := .float .f64 r) (by first | (with_reducible assumption) | simp [*])
    have x1310 := bkeep2 hb13 (p := ⟨w3.heap.size, 0, none⟩) (v := .float .f64 e1) (by first | (with_reducible assumption) | simp [*])
    have x1311 := bkeep2 hb13 (p := ⟨w3.heap.size, 1, none⟩) (v := .float .f64 e2) (by first | (with_reducible assumption) | simp [*])
    have x1312 := bkeep2 hb13 (p := ⟨w3.heap.size, 2, none⟩) (v := .float .f64 e3) (by first | (with_reducible assumption) | simp [*])
    have x1313 := bkeep2 hb13 (p := ⟨w3.heap.size, 3, none⟩) (v := .float .f64 e4) (by first | (with_reducible assumption) | simp [*])
    have x1320 := bkeep2 hb13 (p := ⟨w6.heap.size, 0, none⟩) (v := .float .f64 y1) (by first | (with_reducible assumption) | simp [*])
    have x1321 := bkeep2 hb13 (p := ⟨w6.heap.size, 1, none⟩) (v := .float .f64 y2) (by first | (with_reducible assumption) | simp [*])
    have x1322 := bkeep2 hb13 (p := ⟨w6.heap.size, 2, none⟩) (v := .float .f64 y3) (by first | (with_reducible assumption) | simp [*])
    have x1323 := bkeep2 hb13 (p := ⟨w6.heap.size, 3, none⟩) (v := .float .f64 y4) (by first | (with_reducible assumption) | simp [*])
    have x1330 := bkeep2 hb13 (p := ⟨w7.heap.size, 0, none⟩) (v := .complex .f64 d1 d2) (by first | (with_reducible assumption) | simp [*])
    have x1331 := bkeep2 hb13 (p := ⟨w7.heap.size, 1, none⟩) (v := .float .f64 d3) (by first | (with_reducible assumption) | simp [*])
    go_wp2_with fail
    go_at_call 82
    refine (sd4 _).mono ?_
    rintro e w14 ⟨rfl, hb14⟩
    have x1400 := bkeep2 hb14 (p := ⟨w1.heap.size, 0, none⟩) (v := .complex .f64 a b) (by first | (with_reducible assumption) | simp [*])
    have x1401 := bkeep2 hb14 (p := ⟨w1.heap.size, 1, none⟩) (v := .float .f64 r) (by first | (with_reducible assumption) | simp [*])
    have x1410 := bkeep2 hb14 (p := ⟨w3.heap.size, 0, none⟩) (v := .float .f64 e1) (by first | (with_reducible assumption) | simp [*])
    have x1411 := bkeep2 hb14 (p := ⟨w3.heap.size, 1, none⟩) (v := .float .f64 e2) (by first | (with_reducible assumption) | simp [*])
    have x1412 := bkeep2 hb14 (p := ⟨w3.heap.size, 2, none⟩) (v := .float .f64 e3) (by first | (with_reducible assumption) | simp [*])
    have x1413 := bkeep2 hb14 (p := ⟨w3.heap.size, 3, none⟩) (v := .float .f64 e4) (by first | (with_reducible assumption) | simp [*])
    have x1420 := bkeep2 hb14 (p := ⟨w6.heap.size, 0, none⟩) (v := .float .f64 y1) (by first | (with_reducible assumption) | simp [*])
    have x1421 := bkeep2 hb14 (p := ⟨w6.heap.size, 1, none⟩) (v := .float .f64 y2) (by first | (with_reducible assumption) | simp [*])
    have x1422 := bkeep2 hb14 (p := ⟨w6.heap.size, 2, none⟩) (v := .float .f64 y3) (by first | (with_reducible assumption) | simp [*])
    have x1423 := bkeep2 hb14 (p := ⟨w6.heap.size, 3, none⟩) (v := .float .f64 y4) (by first | (with_reducible assumption) | simp [*])
    have x1430 := bkeep2 hb14 (p := ⟨w7.heap.size, 0, none⟩) (v := .complex .f64 d1 d2) (by first | (with_reducible assumption) | simp [*])
    have x1431 := bkeep2 hb14 (p := ⟨w7.heap.size, 1, none⟩) (v := .float .f64 d3) (by first | (with_reducible assumption) | simp [*])
    go_wp2_with fail
    go_ret
    refine ⟨rfl, ?_⟩
    repeat (with_reducible first | exact Below.refl _ _ | assumption | refine Below.drew ?_ | refine bl_drewN ?_ _ | refine Below.setCell ?_ (by first | omega | (simp; done) | (simp; omega)) _ | refine Below.alloc ?_ (by first | omega | (simp; done) | (simp; omega)) _ | refine bl_next ?_ (by assumption) | refine bl_trans ?_ (by assumption) (by first | omega | (simp; done) | (simp; omega)))

end Go.Proofs.Ytacnclofbnafiaa
