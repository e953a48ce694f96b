import Derived.Test.YtcfjicfmcmbepabT1
namespace Go.Proofs.Ytcfjicfmcmbepab
open Go.RowKit Fl

set_option maxHeartbeats 4000000 in
theorem turns_t_w (v : Value) (f : Nat → Nat) (e1 e2 e3 e4 d1 d2 d3 n1 n2 : Nat) (cb : Bool)
    (lo : ∀ w, Calls Try.prog 6 #[.agg #[.complex .f64 (f 0) (f 1), .float .f64 (f 2)]] w fun e w' => e = .returned (.bool true) ∧ Below w.heap.size w w')
    (tb : ∀ w, Calls Try.prog 7 #[.agg #[.complex .f64 (f 0) (f 1), .float .f64 (f 2)]] w fun e w' => e = .returned (.agg #[.float .f64 e1, .float .f64 e2, .float .f64 e3, .float .f64 e4]) ∧ Below w.heap.size w w')
    (ba : ∀ w, Calls Try.prog 9 #[.agg #[.float .f64 (f 3), .float .f64 (f 4), .float .f64 (f 5), .float .f64 (f 6)]] w fun e w' => e = .returned (.bool cb) ∧ Below w.heap.size w w')
    (td : ∀ w, Calls Try.prog 10 #[.agg #[.float .f64 (f 3), .float .f64 (f 4), .float .f64 (f 5), .float .f64 (f 6)]] w fun e w' => e = .returned (.agg #[.complex .f64 d1 d2, .float .f64 d3]) ∧ Below w.heap.size w w')
    (em : ∀ w, Calls Try.prog 12 #[] w fun e w' => e = .returned (.agg #[.float .f64 n1, .float .f64 n2]) ∧ Below w.heap.size w w')
    (a1 : ∀ w, Calls Try.prog 11 #[.agg #[.float .f64 e1, .float .f64 e2], .agg #[.float .f64 n1, .float .f64 n2]] w fun e w' => e = .returned (.bool true) ∧ Below w.heap.size w w')
    (a2 : ∀ w, Calls Try.prog 11 #[.agg #[.float .f64 e3, .float .f64 e4], .agg #[.float .f64 n1, .float .f64 n2]] w fun e w' => e = .returned (.bool true) ∧ Below w.heap.size w w')
    (fo : ∀ w, Calls Try.prog 13 #[.agg #[.complex .f64 d1 d2, .float .f64 d3]] w fun e w' => e = .returned (.bool true) ∧ Below w.heap.size w w')
    (no1 : ∀ w, Calls Try.prog 14 #[.agg #[.float .f64 e1, .float .f64 e2]] w fun e w' => e = .returned (.bool true) ∧ Below w.heap.size w w')
    (hd : (Ieee.double.order d3 13830554455654793216 == some .eq) = cb)
    (w : World) (hl : Lst w v f) :
    Calls Try.prog 3 #[v] w fun e w' => e = .returned (.bool true) ∧ Below w.heap.size w w' := by
  go_enter Try.func3, Try.ntmps3
  go_wp2_with fail
  go_at_call 5
  refine (disc0_w v f _ hl).mono ?_
  rintro e w1 ⟨rfl, hb1⟩
  have s1 := hb1.size
  try simp at s1
  go_wp2_with fail
  go_at_call 6
  refine (lo _).mono ?_
  rintro e w2 ⟨rfl, hb2⟩
  have s2 := hb2.size
  try simp at s2
  have d20 : w2.cell? ⟨w1.heap.size, 0, none⟩ = some (.complex .f64 (f 0) (f 1)) := bkeep2 hb2 (by simp [go_sem])
  have d21 : w2.cell? ⟨w1.heap.size, 1, none⟩ = some (.float .f64 (f 2)) := bkeep2 hb2 (by simp [go_sem])
  have l0 : w1.heap.size < w2.heap.size := cell_lt d20
  go_wp2_with fail
  go_at_call 7
  refine (tb _).mono ?_
  rintro e w3 ⟨rfl, hb3⟩
  have s3 := hb3.size
  try simp at s3
  replace d20 := bkeep2 hb3 d20
  replace d21 := bkeep2 hb3 d21
  have l0 : w1.heap.size < w3.heap.size := cell_lt d20
  go_wp2_with fail
  go_at_call 8
  refine (box3_w v f _ (((((hl.below hb1).below (bl_alloc (Below.refl _ _))).below hb2).below hb3).below (bl_alloc (Below.refl _ _)))).mono ?_
  rintro e w4 ⟨rfl, hb4⟩
  have s4 := hb4.size
  try simp at s4
  replace d20 := bkeep3 hb4 d20
  replace d21 := bkeep3 hb4 d21
  have d40 : w4.cell? ⟨w3.heap.size, 0, none⟩ = some (.float .f64 e1) := bkeep2 hb4 (by simp [go_sem])
  have d41 : w4.cell? ⟨w3.heap.size, 1, none⟩ = some (.float .f64 e2) := bkeep2 hb4 (by simp [go_sem])
  have d42 : w4.cell? ⟨w3.heap.size, 2, none⟩ = some (.float .f64 e3) := bkeep2 hb4 (by simp [go_sem])
  have d43 : w4.cell? ⟨w3.heap.size, 3, none⟩ = some (.float .f64 e4) := bkeep2 hb4 (by simp [go_sem])
  have l0 : w1.heap.size < w4.heap.size := cell_lt d20
  have l1 : w3.heap.size < w4.heap.size := cell_lt d40
  go_wp2_with fail
  go_at_call 9
  refine (ba _).mono ?_
  rintro e w5 ⟨rfl, hb5⟩
  have s5 := hb5.size
  try simp at s5
  clear d20 d21
  replace d40 := bkeep3 hb5 d40
  replace d41 := bkeep3 hb5 d41
  replace d42 := bkeep3 hb5 d42
  replace d43 := bkeep3 hb5 d43
  have d50 : w5.cell? ⟨w4.heap.size, 0, none⟩ = some (.float .f64 (f 3)) := bkeep2 hb5 (by simp [go_sem])
  have d51 : w5.cell? ⟨w4.heap.size, 1, none⟩ = some (.float .f64 (f 4)) := bkeep2 hb5 (by simp [go_sem])
  have d52 : w5.cell? ⟨w4.heap.size, 2, none⟩ = some (.float .f64 (f 5)) := bkeep2 hb5 (by simp [go_sem])
  have d53 : w5.cell? ⟨w4.heap.size, 3, none⟩ = some (.float .f64 (f 6)) := bkeep2 hb5 (by simp [go_sem])
  have l0 : w3.heap.size < w5.heap.size := cell_lt d40
  have l1 : w4.heap.size < w5.heap.size := cell_lt d50
  go_wp2_with fail
  go_at_call 10
  refine (td _).mono ?_
  rintro e w6 ⟨rfl, hb6⟩
  have s6 := hb6.size
  try simp at s6
  replace d40 := bkeep2 hb6 d40
  replace d41 := bkeep2 hb6 d41
  replace d42 := bkeep2 hb6 d42
  replace d43 := bkeep2 hb6 d43
  replace d50 := bkeep2 hb6 d50
  replace d51 := bkeep2 hb6 d51
  replace d52 := bkeep2 hb6 d52
  replace d53 := bkeep2 hb6 d53
  have l0 : w3.heap.size < w6.heap.size := cell_lt d40
  have l1 : w4.heap.size < w6.heap.size := cell_lt d50
  go_wp2_with fail
  have lb : w3.heap.size < w6.heap.size := by omega
  go_region_held3 (fun w' => w'.cell? ⟨w3.heap.size, 0, none⟩ = some (.float .f64 e1) ∧ w'.cell? ⟨w3.heap.size, 1, none⟩ = some (.float .f64 e2) ∧ w'.cell? ⟨w3.heap.size, 2, none⟩ = some (.float .f64 e3) ∧ w'.cell? ⟨w3.heap.size, 3, none⟩ = some (.float .f64 e4) ∧ w'.cell? ⟨w6.heap.size, 0, none⟩ = some (.complex .f64 d1 d2) ∧ w'.cell? ⟨w6.heap.size, 1, none⟩ = some (.float .f64 d3)) (((try dsimp only); (try go_split_ands); (repeat' apply And.intro) <;> first | (with_reducible assumption) | (rw []; (with_reducible assumption)) | (with_reducible refine bkeep2 hb ?_; first | (with_reducible assumption) | (simp [*]; done)) | go_keep)) (first | (go_at_call 12; with_reducible refine (em _).mono ?_; rintro e w' ⟨rfl, hb⟩) | (go_at_call 11; with_reducible refine (a1 _).mono ?_; rintro e w' ⟨rfl, hb⟩) | (go_at_call 11; with_reducible refine (a2 _).mono ?_; rintro e w' ⟨rfl, hb⟩))
  all_goals (go_wp2_with fail; go_at_call 13; refine (fo _).mono ?_; rintro e w7 ⟨rfl, hb7⟩; have x700 := bkeep2 hb7 (p := ⟨w3.heap.size, 0, none⟩) (v := .float .f64 e1) (by first | (with_reducible assumption) | simp [*]); have x701 := bkeep2 hb7 (p := ⟨w3.heap.size, 1, none⟩) (v := .float .f64 e2) (by first | (with_reducible assumption) | simp [*]); have x702 := bkeep2 hb7 (p := ⟨w3.heap.size, 2, none⟩) (v := .float .f64 e3) (by first | (with_reducible assumption) | simp [*]); have x703 := bkeep2 hb7 (p := ⟨w3.heap.size, 3, none⟩) (v := .float .f64 e4) (by first | (with_reducible assumption) | simp [*]); have x710 := bkeep2 hb7 (p := ⟨w6.heap.size, 0, none⟩) (v := .complex .f64 d1 d2) (by first | (with_reducible assumption) | simp [*]); have x711 := bkeep2 hb7 (p := ⟨w6.heap.size, 1, none⟩) (v := .float .f64 d3) (by first | (with_reducible assumption) | simp [*]); go_wp2_with fail; go_at_call 14; refine (no1 _).mono ?_; rintro e w8 ⟨rfl, hb8⟩; have x800 := bkeep2 hb8 (p := ⟨w3.heap.size, 0, none⟩) (v := .float .f64 e1) (by first | (with_reducible assumption) | simp [*]); have x801 := bkeep2 hb8 (p := ⟨w3.heap.size, 1, none⟩) (v := .float .f64 e2) (by first | (with_reducible assumption) | simp [*]); have x802 := bkeep2 hb8 (p := ⟨w3.heap.size, 2, none⟩) (v := .float .f64 e3) (by first | (with_reducible assumption) | simp [*]); have x803 := bkeep2 hb8 (p := ⟨w3.heap.size, 3, none⟩) (v := .float .f64 e4) (by first | (with_reducible assumption) | simp [*]); have x810 := bkeep2 hb8 (p := ⟨w6.heap.size, 0, none⟩) (v := .complex .f64 d1 d2) (by first | (with_reducible assumption) | simp [*]); have x811 := bkeep2 hb8 (p := ⟨w6.heap.size, 1, none⟩) (v := .float .f64 d3) (by first | (with_reducible assumption) | simp [*]); go_wp2_with fail; go_ret; refine ⟨rfl, ?_⟩; repeat (with_reducible first | exact Below.refl _ _ | assumption | refine Below.drew ?_ | refine bl_drewN ?_ _ | refine Below.setCell ?_ (by first | omega | (simp; done) | (simp; omega)) _ | refine Below.alloc ?_ (by first | omega | (simp; done) | (simp; omega)) _ | refine bl_next ?_ (by assumption) | refine bl_trans ?_ (by assumption) (by first | omega | (simp; done) | (simp; omega))))

set_option maxHeartbeats 4000000 in
theorem turns_f_w (v : Value) (f : Nat → Nat) (e1 e2 e3 e4 d1 d2 d3 n1 n2 : Nat) (cb : Bool)
    (lo : ∀ w, Calls Try.prog 6 #[.agg #[.complex .f64 (f 0) (f 1), .float .f64 (f 2)]] w fun e w' => e = .returned (.bool false) ∧ Below w.heap.size w w')
    (tb : ∀ w, Calls Try.prog 7 #[.agg #[.complex .f64 (f 0) (f 1), .float .f64 (f 2)]] w fun e w' => e = .returned (.agg #[.float .f64 e1, .float .f64 e2, .float .f64 e3, .float .f64 e4]) ∧ Below w.heap.size w w')
    (ba : ∀ w, Calls Try.prog 9 #[.agg #[.float .f64 (f 3), .float .f64 (f 4), .float .f64 (f 5), .float .f64 (f 6)]] w fun e w' => e = .returned (.bool cb) ∧ Below w.heap.size w w')
    (td : ∀ w, Calls Try.prog 10 #[.agg #[.float .f64 (f 3), .float .f64 (f 4), .float .f64 (f 5), .float .f64 (f 6)]] w fun e w' => e = .returned (.agg #[.complex .f64 d1 d2, .float .f64 d3]) ∧ Below w.heap.size w w')
    (em : ∀ w, Calls Try.prog 12 #[] w fun e w' => e = .returned (.agg #[.float .f64 n1, .float .f64 n2]) ∧ Below w.heap.size w w')
    (a1 : ∀ w, Calls Try.prog 11 #[.agg #[.float .f64 e1, .float .f64 e2], .agg #[.float .f64 n1, .float .f64 n2]] w fun e w' => e = .returned (.bool false) ∧ Below w.heap.size w w')
    (fo : ∀ w, Calls Try.prog 13 #[.agg #[.complex .f64 d1 d2, .float .f64 d3]] w fun e w' => e = .returned (.bool true) ∧ Below w.heap.size w w')
    (no1 : ∀ w, Calls Try.prog 14 #[.agg #[.float .f64 e1, .float .f64 e2]] w fun e w' => e = .returned (.bool false) ∧ Below w.heap.size w w')
    (no2 : ∀ w, Calls Try.prog 14 #[.agg #[.float .f64 e3, .float .f64 e4]] w fun e w' => e = .returned (.bool false) ∧ Below w.heap.size w w')
    (hd : (Ieee.double.order d3 13830554455654793216 == some .eq) = cb)
    (w : World) (hl : Lst w v f) :
    Calls Try.prog 3 #[v] w fun e w' => e = .returned (.bool true) ∧ Below w.heap.size w w' := by
  go_enter Try.func3, Try.ntmps3
  go_wp2_with fail
  go_at_call 5
  refine (disc0_w v f _ hl).mono ?_
  rintro e w1 ⟨rfl, hb1⟩
  have s1 := hb1.size
  try simp at s1
  go_wp2_with fail
  go_at_call 6
  refine (lo _).mono ?_
  rintro e w2 ⟨rfl, hb2⟩
  have s2 := hb2.size
  try simp at s2
  have d20 : w2.cell? ⟨w1.heap.size, 0, none⟩ = some (.complex .f64 (f 0) (f 1)) := bkeep2 hb2 (by simp [go_sem])
  have d21 : w2.cell? ⟨w1.heap.size, 1, none⟩ = some (.float .f64 (f 2)) := bkeep2 hb2 (by simp [go_sem])
  have l0 : w1.heap.size < w2.heap.size := cell_lt d20
  go_wp2_with fail
  go_at_call 7
  refine (tb _).mono ?_
  rintro e w3 ⟨rfl, hb3⟩
  have s3 := hb3.size
  try simp at s3
  replace d20 := bkeep2 hb3 d20
  replace d21 := bkeep2 hb3 d21
  have l0 : w1.heap.size < w3.heap.size := cell_lt d20
  go_wp2_with fail
  go_at_call 8
  refine (box3_w v f _ (((((hl.below hb1).below (bl_alloc (Below.refl _ _))).below hb2).below hb3).below (bl_alloc (Below.refl _ _)))).mono ?_
  rintro e w4 ⟨rfl, hb4⟩
  have s4 := hb4.size
  try simp at s4
  replace d20 := bkeep3 hb4 d20
  replace d21 := bkeep3 hb4 d21
  have d40 : w4.cell? ⟨w3.heap.size, 0, none⟩ = some (.float .f64 e1) := bkeep2 hb4 (by simp [go_sem])
  have d41 : w4.cell? ⟨w3.heap.size, 1, none⟩ = some (.float .f64 e2) := bkeep2 hb4 (by simp [go_sem])
  have d42 : w4.cell? ⟨w3.heap.size, 2, none⟩ = some (.float .f64 e3) := bkeep2 hb4 (by simp [go_sem])
  have d43 : w4.cell? ⟨w3.heap.size, 3, none⟩ = some (.float .f64 e4) := bkeep2 hb4 (by simp [go_sem])
  have l0 : w1.heap.size < w4.heap.size := cell_lt d20
  have l1 : w3.heap.size < w4.heap.size := cell_lt d40
  go_wp2_with fail
  go_at_call 9
  refine (ba _).mono ?_
  rintro e w5 ⟨rfl, hb5⟩
  have s5 := hb5.size
  try simp at s5
  clear d20 d21
  replace d40 := bkeep3 hb5 d40
  replace d41 := bkeep3 hb5 d41
  replace d42 := bkeep3 hb5 d42
  replace d43 := bkeep3 hb5 d43
  have d50 : w5.cell? ⟨w4.heap.size, 0, none⟩ = some (.float .f64 (f 3)) := bkeep2 hb5 (by simp [go_sem])
  have d51 : w5.cell? ⟨w4.heap.size, 1, none⟩ = some (.float .f64 (f 4)) := bkeep2 hb5 (by simp [go_sem])
  have d52 : w5.cell? ⟨w4.heap.size, 2, none⟩ = some (.float .f64 (f 5)) := bkeep2 hb5 (by simp [go_sem])
  have d53 : w5.cell? ⟨w4.heap.size, 3, none⟩ = some (.float .f64 (f 6)) := bkeep2 hb5 (by simp [go_sem])
  have l0 : w3.heap.size < w5.heap.size := cell_lt d40
  have l1 : w4.heap.size < w5.heap.size := cell_lt d50
  go_wp2_with fail
  go_at_call 10
  refine (td _).mono ?_
  rintro e w6 ⟨rfl, hb6⟩
  have s6 := hb6.size
  try simp at s6
  replace d40 := bkeep2 hb6 d40
  replace d41 := bkeep2 hb6 d41
  replace d42 := bkeep2 hb6 d42
  replace d43 := bkeep2 hb6 d43
  replace d50 := bkeep2 hb6 d50
  replace d51 := bkeep2 hb6 d51
  replace d52 := bkeep2 hb6 d52
  replace d53 := bkeep2 hb6 d53
  have l0 : w3.heap.size < w6.heap.size := cell_lt d40
  have l1 : w4.heap.size < w6.heap.size := cell_lt d50
  go_wp2_with fail
  have lb : w3.heap.size < w6.heap.size := by omega
  obtain ⟨u0, hu0⟩ : ∃ u, u = w6.alloc (.cells #[.complex .f64 d1 d2, .float .f64 d3] 26) := ⟨_, rfl⟩
  rw [← hu0]
  have g00 : u0.cell? ⟨w3.heap.size, 0, none⟩ = some (.float .f64 e1) := by rw [hu0]; exact bkeep (bl_alloc (Below.refl _ _)) d40 (cell_lt d40)
  have g01 : u0.cell? ⟨w3.heap.size, 1, none⟩ = some (.float .f64 e2) := by rw [hu0]; exact bkeep (bl_alloc (Below.refl _ _)) d41 (cell_lt d41)
  have g02 : u0.cell? ⟨w3.heap.size, 2, none⟩ = some (.float .f64 e3) := by rw [hu0]; exact bkeep (bl_alloc (Below.refl _ _)) d42 (cell_lt d42)
  have g03 : u0.cell? ⟨w3.heap.size, 3, none⟩ = some (.float .f64 e4) := by rw [hu0]; exact bkeep (bl_alloc (Below.refl _ _)) d43 (cell_lt d43)
  have g10 : u0.cell? ⟨w6.heap.size, 0, none⟩ = some (.complex .f64 d1 d2) := by rw [hu0]; simp [go_sem]
  have g11 : u0.cell? ⟨w6.heap.size, 1, none⟩ = some (.float .f64 d3) := by rw [hu0]; simp [go_sem]
  have hbu : Below w6.heap.size w6 u0 := by rw [hu0]; exact bl_alloc (Below.refl _ _)
  have su := hbu.size
  clear hu0
  first | (go_region_with (first | (go_at_call 12; with_reducible refine (em _).mono ?_; rintro e w' ⟨rfl, hb⟩; have z00 := bkeep2 hb (p := ⟨w3.heap.size, 0, none⟩) (v := .float .f64 e1) (by first | (with_reducible assumption) | simp [*]); have z01 := bkeep2 hb (p := ⟨w3.heap.size, 1, none⟩) (v := .float .f64 e2) (by first | (with_reducible assumption) | simp [*]); have z02 := bkeep2 hb (p := ⟨w3.heap.size, 2, none⟩) (v := .float .f64 e3) (by first | (with_reducible assumption) | simp [*]); have z03 := bkeep2 hb (p := ⟨w3.heap.size, 3, none⟩) (v := .float .f64 e4) (by first | (with_reducible assumption) | simp [*]); have z10 := bkeep2 hb (p := ⟨w6.heap.size, 0, none⟩) (v := .complex .f64 d1 d2) (by first | (with_reducible assumption) | simp [*]); have z11 := bkeep2 hb (p := ⟨w6.heap.size, 1, none⟩) (v := .float .f64 d3) (by first | (with_reducible assumption) | simp [*])) | (go_at_call 11; with_reducible refine (a1 _).mono ?_; rintro e w' ⟨rfl, hb⟩; have z00 := bkeep2 hb (p := ⟨w3.heap.size, 0, none⟩) (v := .float .f64 e1) (by first | (with_reducible assumption) | simp [*]); have z01 := bkeep2 hb (p := ⟨w3.heap.size, 1, none⟩) (v := .float .f64 e2) (by first | (with_reducible assumption) | simp [*]); have z02 := bkeep2 hb (p := ⟨w3.heap.size, 2, none⟩) (v := .float .f64 e3) (by first | (with_reducible assumption) | simp [*]); have z03 := bkeep2 hb (p := ⟨w3.heap.size, 3, none⟩) (v := .float .f64 e4) (by first | (with_reducible assumption) | simp [*]); have z10 := bkeep2 hb (p := ⟨w6.heap.size, 0, none⟩) (v := .complex .f64 d1 d2) (by first | (with_reducible assumption) | simp [*]); have z11 := bkeep2 hb (p := ⟨w6.heap.size, 1, none⟩) (v := .float .f64 d3) (by first | (with_reducible assumption) | simp [*])))) | fail
  all_goals (go_wp2_with fail; go_at_call 13; refine (fo _).mono ?_; rintro e w7 ⟨rfl, hb7⟩; have x700 := bkeep2 hb7 (p := ⟨w3.heap.size, 0, none⟩) (v := .float .f64 e1) (by first | (with_reducible assumption) | simp [*]); have x701 := bkeep2 hb7 (p := ⟨w3.heap.size, 1, none⟩) (v := .float .f64 e2) (by first | (with_reducible assumption) | simp [*]); have x702 := bkeep2 hb7 (p := ⟨w3.heap.size, 2, none⟩) (v := .float .f64 e3) (by first | (with_reducible assumption) | simp [*]); have x703 := bkeep2 hb7 (p := ⟨w3.heap.size, 3, none⟩) (v := .float .f64 e4) (by first | (with_reducible assumption) | simp [*]); have x710 := bkeep2 hb7 (p := ⟨w6.heap.size, 0, none⟩) (v := .complex .f64 d1 d2) (by first | (with_reducible assumption) | simp [*]); have x711 := bkeep2 hb7 (p := ⟨w6.heap.size, 1, none⟩) (v := .float .f64 d3) (by first | (with_reducible assumption) | simp [*]); go_wp2_with fail; go_at_call 14; refine (no1 _).mono ?_; rintro e w8 ⟨rfl, hb8⟩; have x800 := bkeep2 hb8 (p := ⟨w3.heap.size, 0, none⟩) (v := .float .f64 e1) (by first | (with_reducible assumption) | simp [*]); have x801 := bkeep2 hb8 (p := ⟨w3.heap.size, 1, none⟩) (v := .float .f64 e2) (by first | (with_reducible assumption) | simp [*]); have x802 := bkeep2 hb8 (p := ⟨w3.heap.size, 2, none⟩) (v := .float .f64 e3) (by first | (with_reducible assumption) | simp [*]); have x803 := bkeep2 hb8 (p := ⟨w3.heap.size, 3, none⟩) (v := .float .f64 e4) (by first | (with_reducible assumption) | simp [*]); have x810 := bkeep2 hb8 (p := ⟨w6.heap.size, 0, none⟩) (v := .complex .f64 d1 d2) (by first | (with_reducible assumption) | simp [*]); have x811 := bkeep2 hb8 (p := ⟨w6.heap.size, 1, none⟩) (v := .float .f64 d3) (by first | (with_reducible assumption) | simp [*]); go_wp2_with fail; go_at_call 14; refine (no2 _).mono ?_; rintro e w9 ⟨rfl, hb9⟩; have x900 := bkeep2 hb9 (p := ⟨w3.heap.size, 0, none⟩) (v := .float .f64 e1) (by first | (with_reducible assumption) | simp [*]); have x901 := bkeep2 hb9 (p := ⟨w3.heap.size, 1, none⟩) (v := .float .f64 e2) (by first | (with_reducible assumption) | simp [*]); have x902 := bkeep2 hb9 (p := ⟨w3.heap.size, 2, none⟩) (v := .float .f64 e3) (by first | (with_reducible assumption) | simp [*]); have x903 := bkeep2 hb9 (p := ⟨w3.heap.size, 3, none⟩) (v := .float .f64 e4) (by first | (with_reducible assumption) | simp [*]); have x910 := bkeep2 hb9 (p := ⟨w6.heap.size, 0, none⟩) (v := .complex .f64 d1 d2) (by first | (with_reducible assumption) | simp [*]); have x911 := bkeep2 hb9 (p := ⟨w6.heap.size, 1, none⟩) (v := .float .f64 d3) (by first | (with_reducible assumption) | simp [*]); go_wp2_with fail; go_ret; refine ⟨rfl, ?_⟩; repeat (with_reducible first | exact Below.refl _ _ | assumption | refine Below.drew ?_ | refine bl_drewN ?_ _ | refine Below.setCell ?_ (by first | omega | (simp; done) | (simp; omega)) _ | refine Below.alloc ?_ (by first | omega | (simp; done) | (simp; omega)) _ | refine bl_next ?_ (by assumption) | refine bl_trans ?_ (by assumption) (by first | omega | (simp; done) | (simp; omega))))

end Go.Proofs.Ytcfjicfmcmbepab
