import Derived.Test.YtacnclofbnafiabK9
import Derived.Test.YtacnclofbnafiabK4
import Derived.Test.YtacnclofbnafiabB1r
import Derived.Test.YtacnclofbnafiabT1
import Derived.Test.YtacnclofbnafiabX7a
namespace Go.Proofs.Ytacnclofbnafiab
open Go.RowKit Fl

theorem rempty : ∀ w, Calls Try.prog 12 #[] w fun e w' => e = .returned (.agg #[.float .f64 (B INF), .float .f64 (B (-INF))]) ∧ Below w.heap.size w w' := rempty_w _ _ infp infn
theorem rnone_no {X1 X2 : Nat} {k l : Int} (h : Iv X1 X2 k l) : ∀ w, Calls Try.prog 27 #[.agg #[.float .f64 X1, .float .f64 X2]] w fun e w' => e = .returned (.bool false) ∧ Below w.heap.size w w' := by
  have hI := INF_pos
  have h1 : (Ieee.double.order X1 X1 != some .eq) = false := by rw [h.x.self]; rfl
  have h2 : (Ieee.double.order X2 X2 != some .eq) = false := by rw [h.y.self]; rfl
  have e1 := h.le
  have e2 := h.lo
  have e3 := h.hi
  have h3 : (Ieee.double.order X1 X2 == some .gt) = false := by
    rw [h.x.order h.y]
    have : compare k l ≠ .gt := by rw [Ne, Int.compare_eq_gt]; omega
    simp [this]
  have h4 : (Ieee.double.order X1 9218868437227405311 == some .gt) = false := by
    rw [h.x.order Key.max]
    have : compare k (INF - 1) ≠ .gt := by rw [Ne, Int.compare_eq_gt]; omega
    simp [this]
  have h5 : (Ieee.double.order X2 18442240474082181119 == some .lt) = false := by
    rw [h.y.order Key.nmax]
    have : compare l (1 - INF) ≠ .lt := by rw [Ne, Int.compare_eq_lt]; omega
    simp [this]
  exact rnone5_w X1 X2 h1 h2 h3 h4 h5
theorem rnone_yes {X1 X2 : Nat} (h : NoIv X1 X2) (hX1 : X1 < 18446744073709551616) (hX2 : X2 < 18446744073709551616) : ∀ w, Calls Try.prog 27 #[.agg #[.float .f64 X1, .float .f64 X2]] w fun e w' => e = .returned (.bool true) ∧ Below w.heap.size w w' := by
  rcases h.cases hX1 hX2 with g | ⟨k, g1, g⟩ | ⟨k, l, g1, g2, g⟩
  · exact rnone0_w X1 X2 (by rw [g.l]; rfl)
  · exact rnone1_w X1 X2 (by rw [g1.self]; rfl) (by rw [g.l]; rfl)
  · have h1 : (Ieee.double.order X1 X1 != some .eq) = false := by rw [g1.self]; rfl
    have h2 : (Ieee.double.order X2 X2 != some .eq) = false := by rw [g2.self]; rfl
    rcases g with g | ⟨g, g3⟩ | ⟨g, g3, g4⟩
    · exact rnone2_w X1 X2 h1 h2 (by rw [g1.ogt g2 g]; rfl)
    · have h3 : (Ieee.double.order X1 X2 == some .gt) = false := by
        rw [g1.order g2]
        have : compare k l ≠ .gt := by rw [Ne, Int.compare_eq_gt]; omega
        simp [this]
      exact rnone3_w X1 X2 h1 h2 h3 (by rw [g1.ogt Key.max (by omega)]; rfl)
    · have h3 : (Ieee.double.order X1 X2 == some .gt) = false := by
        rw [g1.order g2]
        have : compare k l ≠ .gt := by rw [Ne, Int.compare_eq_gt]; omega
        simp [this]
      have h4 : (Ieee.double.order X1 9218868437227405311 == some .gt) = false := by
        rw [g1.order Key.max]
        have : compare k (INF - 1) ≠ .gt := by rw [Ne, Int.compare_eq_gt]; omega
        simp [this]
      exact rnone4_w X1 X2 h1 h2 h3 h4 (by rw [g2.olt Key.nmax (by omega)]; rfl)
theorem rbare_no {a b c d : Nat} {k l m n : Int} (h : Iv a b k l) (h' : Iv c d m n) : ∀ w, Calls Try.prog 9 #[.agg #[.float .f64 a, .float .f64 b, .float .f64 c, .float .f64 d]] w fun e w' => e = .returned (.bool false) ∧ Below w.heap.size w w' :=
  rbare_ff_w _ _ _ _ (rnone_no h) (rnone_no h')
theorem rbare_yes {a b c d : Nat} (ha : a < 18446744073709551616) (hb : b < 18446744073709551616) (hc : c < 18446744073709551616) (hd : d < 18446744073709551616) (h : NoIv a b ∨ NoIv c d) : ∀ w, Calls Try.prog 9 #[.agg #[.float .f64 a, .float .f64 b, .float .f64 c, .float .f64 d]] w fun e w' => e = .returned (.bool true) ∧ Below w.heap.size w w' := by
  rcases Iv.or a b with ⟨k, l, g⟩ | g <;> rcases Iv.or c d with ⟨m, n, g'⟩ | g'
  · rcases h with h | h
    · exact absurd g (h k l)
    · exact absurd g' (h m n)
  · exact rbare_ft_w _ _ _ _ (rnone_no g) (rnone_yes g' hc hd)
  · exact rbare_tf_w _ _ _ _ (rnone_yes g ha hb) (rnone_no g')
  · exact rbare_tt_w _ _ _ _ (rnone_yes g ha hb) (rnone_yes g' hc hd)

end Go.Proofs.Ytacnclofbnafiab

namespace Go.Proofs.Ytacnclofbnafiab
open Go.RowKit Fl

set_option maxHeartbeats 4000000 in
theorem turns_t_w (v : Value) (f : Nat → Nat) (e1 e2 e3 e4 d1 d2 d3 n1 n2 : Nat) (cb : Bool)
    (lo : ∀ w, Calls Try.prog 6 #[.agg #[.complex .f64 (f 0) (f 1), .float .f64 (f 2)]] w fun e w' => e = .returned (.bool true) ∧ Below w.heap.size w w')
    (tb : ∀ w, Calls Try.prog 7 #[.agg #[.complex .f64 (f 0) (f 1), .float .f64 (f 2)]] w fun e w' => e = .returned (.agg #[.float .f64 e1, .float .f64 e2, .float .f64 e3, .float .f64 e4]) ∧ Below w.heap.size w w')
    (ba : ∀ w, Calls Try.prog 9 #[.agg #[.float .f64 (f 3), .float .f64 (f 4), .float .f64 (f 5), .float .f64 (f 6)]] w fun e w' => e = .returned (.bool cb) ∧ Below w.heap.size w w')
    (td : ∀ w, Calls Try.prog 10 #[.agg #[.float .f64 (f 3), .float .f64 (f 4), .float .f64 (f 5), .float .f64 (f 6)]] w fun e w' => e = .returned (.agg #[.complex .f64 d1 d2, .float .f64 d3]) ∧ Below w.heap.size w w')
    (em : ∀ w, Calls Try.prog 12 #[] w fun e w' => e = .returned (.agg #[.float .f64 n1, .float .f64 n2]) ∧ Below w.heap.size w w')
    (a1 : ∀ w, Calls Try.prog 11 #[.agg #[.float .f64 e1, .float .f64 e2], .agg #[.float .f64 n1, .float .f64 n2]] w fun e w' => e = .returned (.bool true) ∧ Below w.heap.size w w')
    (a2 : ∀ w, Calls Try.prog 11 #[.agg #[.float .f64 e3, .float .f64 e4], .agg #[.float .f64 n1, .float .f64 n2]] w fun e w' => e = .returned (.bool true) ∧ Below w.heap.size w w')
    (fo : ∀ w, Calls Try.prog 13 #[.agg #[.complex .f64 d1 d2, .float .f64 d3]] w fun e w' => e = .returned (.bool true) ∧ Below w.heap.size w w')
    (no1 : ∀ w, Calls Try.prog 14 #[.agg #[.float .f64 e1, .float .f64 e2]] w fun e w' => e = .returned (.bool true) ∧ Below w.heap.size w w')
    (hd : (Ieee.double.order d3 13830554455654793216 == some .eq) = cb)
    (w : World) (hl : Lst w v f) :
    Calls Try.prog 3 #[v] w fun e w' => e = .returned (.bool true) ∧ Below w.heap.size w w' := by
  go_enter Try.func3, Try.ntmps3
  go_wp2_with fail
  go_at_call 5
  refine (disc0_w v f _ hl).mono ?_
  rintro e w1 ⟨rfl, hb1⟩
  have s1 := hb1.size
  try simp at s1
  go_wp2_with fail
  go_at_call 6
  refine (lo _).mono ?_
  rintro e w2 ⟨rfl, hb2⟩
  have s2 := hb2.size
  try simp at s2
  have d20 : w2.cell? ⟨w1.heap.size, 0, none⟩ = some (.complex .f64 (f 0) (f 1)) := bkeep2 hb2 (by simp [go_sem])
  have d21 : w2.cell? ⟨w1.heap.size, 1, none⟩ = some (.float .f64 (f 2)) := bkeep2 hb2 (by simp [go_sem])
  have l0 : w1.heap.size < w2.heap.size := cell_lt d20
  go_wp2_with fail
  go_at_call 7
  refine (tb _).mono ?_
  rintro e w3 ⟨rfl, hb3⟩
  have s3 := hb3.size
  try simp at s3
  replace d20 := bkeep2 hb3 d20
  replace d21 := bkeep2 hb3 d21
  have l0 : w1.heap.size < w3.heap.size := cell_lt d20
  go_wp2_with fail
  go_at_call 8
  refine (box3_w v f _ (((((hl.below hb1).below (bl_alloc (Below.refl _ _))).below hb2).below hb3).below (bl_alloc (Below.refl _ _)))).mono ?_
  rintro e w4 ⟨rfl, hb4⟩
  have s4 := hb4.size
  try simp at s4
  replace d20 := bkeep3 hb4 d20
  replace d21 := bkeep3 hb4 d21
  have d40 : w4.cell? ⟨w3.heap.size, 0, none⟩ = some (.float .f64 e1) := bkeep2 hb4 (by simp [go_sem])
  have d41 : w4.cell? ⟨w3.heap.size, 1, none⟩ = some (.float .f64 e2) := bkeep2 hb4 (by simp [go_sem])
  have d42 : w4.cell? ⟨w3.heap.size, 2, none⟩ = some (.float .f64 e3) := bkeep2 hb4 (by simp [go_sem])
  have d43 : w4.cell? ⟨w3.heap.size, 3, none⟩ = some (.float .f64 e4) := bkeep2 hb4 (by simp [go_sem])
  have l0 : w1.heap.size < w4.heap.size := cell_lt d20
  have l1 : w3.heap.size < w4.heap.size := cell_lt d40
  go_wp2_with fail
  go_at_call 9
  refine (ba _).mono ?_
  rintro e w5 ⟨rfl, hb5⟩
  have s5 := hb5.size
  try simp at s5
  clear d20 d21
  replace d40 := bkeep3 hb5 d40
  replace d41 := bkeep3 hb5 d41
  replace d42 := bkeep3 hb5 d42
  replace d43 := bkeep3 hb5 d43
  have d50 : w5.cell? ⟨w4.heap.size, 0, none⟩ = some (.float .f64 (f 3)) := bkeep2 hb5 (by simp [go_sem])
  have d51 : w5.cell? ⟨w4.heap.size, 1, none⟩ = some (.float .f64 (f 4)) := bkeep2 hb5 (by simp [go_sem])
  have d52 : w5.cell? ⟨w4.heap.size, 2, none⟩ = some (.float .f64 (f 5)) := bkeep2 hb5 (by simp [go_sem])
  have d53 : w5.cell? ⟨w4.heap.size, 3, none⟩ = some (.float .f64 (f 6)) := bkeep2 hb5 (by simp [go_sem])
  have l0 : w3.heap.size < w5.heap.size := cell_lt d40
  have l1 : w4.heap.size < w5.heap.size := cell_lt d50
  go_wp2_with fail
  go_at_call 10
  refine (td _).mono ?_
  rintro e w6 ⟨rfl, hb6⟩
  have s6 := hb6.size
  try simp at s6
  replace d40 := bkeep2 hb6 d40
  replace d41 := bkeep2 hb6 d41
  replace d42 := bkeep2 hb6 d42
  replace d43 := bkeep2 hb6 d43
  replace d50 := bkeep2 hb6 d50
  replace d51 := bkeep2 hb6 d51
  replace d52 := bkeep2 hb6 d52
  replace d53 := bkeep2 hb6 d53
  have l0 : w3.heap.size < w6.heap.size := cell_lt d40
  have l1 : w4.heap.size < w6.heap.size := cell_lt d50
  go_wp2_with fail
  have lb : w3.heap.size < w6.heap.size := by omega
  go_region_held3 (fun w' => w'.cell? ⟨w3.heap.size, 0, none⟩ = some (.float .f64 e1) ∧ w'.cell? ⟨w3.heap.size, 1, none⟩ = some (.float .f64 e2) ∧ w'.cell? ⟨w3.heap.size, 2, none⟩ = some (.float .f64 e3) ∧ w'.cell? ⟨w3.heap.size, 3, none⟩ = some (.float .f64 e4) ∧ w'.cell? ⟨w6.heap.size, 0, none⟩ = some (.complex .f64 d1 d2) ∧ w'.cell? ⟨w6.heap.size, 1, none⟩ = some (.float .f64 d3)) (((try dsimp only); (try go_split_ands); (repeat' apply And.intro) <;> first | (with_reducible assumption) | (rw []; (with_reducible assumption)) | (with_reducible refine bkeep2 hb ?_; first | (with_reducible assumption) | (simp [*]; done)) | go_keep)) (first | (go_at_call 12; with_reducible refine (em _).mono ?_; rintro e w' ⟨rfl, hb⟩) | (go_at_call 11; with_reducible refine (a1 _).mono ?_; rintro e w' ⟨rfl, hb⟩) | (go_at_call 11; with_reducible refine (a2 _).mono ?_; rintro e w' ⟨rfl, hb⟩))
  all_goals (go_wp2_with fail; go_at_call 13; refine (fo _).mono ?_; rintro e w7 ⟨rfl, hb7⟩; have x700 := bkeep2 hb7 (p := ⟨w3.heap.size, 0, none⟩) (v := .float .f64 e1) (by first | (with_reducible assumption) | simp [*]); have x701 := bkeep2 hb7 (p := ⟨w3.heap.size, 1, none⟩) (v := .float .f64 e2) (by first | (with_reducible assumption) | simp [*]); have x702 := bkeep2 hb7 (p := ⟨w3.heap.size, 2, none⟩) (v := .float .f64 e3) (by first | (with_reducible assumption) | simp [*]); have x703 := bkeep2 hb7 (p := ⟨w3.heap.size, 3, none⟩) (v := .float .f64 e4) (by first | (with_reducible assumption) | simp [*]); have x710 := bkeep2 hb7 (p := ⟨w6.heap.size, 0, none⟩) (v := .complex .f64 d1 d2) (by first | (with_reducible assumption) | simp [*]); have x711 := bkeep2 hb7 (p := ⟨w6.heap.size, 1, none⟩) (v := .float .f64 d3) (by first | (with_reducible assumption) | simp [*]); go_wp2_with fail; go_at_call 14; refine (no1 _).mono ?_; rintro e w8 ⟨rfl, hb8⟩; have x800 := bkeep2 hb8 (p := ⟨w3.heap.size, 0, none⟩) (v := .float .f64 e1) (by first | (with_reducible assumption) | simp [*]); have x801 := bkeep2 hb8 (p := ⟨w3.heap.size, 1, none⟩) (v := .float .f64 e2) (by first | (with_reducible assumption) | simp [*]); have x802 := bkeep2 hb8 (p := ⟨w3.heap.size, 2, none⟩) (v := .float .f64 e3) (by first | (with_reducible assumption) | simp [*]); have x803 := bkeep2 hb8 (p := ⟨w3.heap.size, 3, none⟩) (v := .float .f64 e4) (by first | (with_reducible assumption) | simp [*]); have x810 := bkeep2 hb8 (p := ⟨w6.heap.size, 0, none⟩) (v := .complex .f64 d1 d2) (by first | (with_reducible assumption) | simp [*]); have x811 := bkeep2 hb8 (p := ⟨w6.heap.size, 1, none⟩) (v := .float .f64 d3) (by first | (with_reducible assumption) | simp [*]); go_wp2_with fail; go_ret; refine ⟨rfl, ?_⟩; repeat (with_reducible first | exact Below.refl _ _ | assumption | refine Below.drew ?_ | refine bl_drewN ?_ _ | refine Below.setCell ?_ (by first | omega | (simp; done) | (simp; omega)) _ | refine Below.alloc ?_ (by first | omega | (simp; done) | (simp; omega)) _ | refine bl_next ?_ (by assumption) | refine bl_trans ?_ (by assumption) (by first | omega | (simp; done) | (simp; omega))))

set_option maxHeartbeats 4000000 in
theorem turns_f_w (v : Value) (f : Nat → Nat) (e1 e2 e3 e4 d1 d2 d3 n1 n2 : Nat) (cb : Bool)
    (lo : ∀ w, Calls Try.prog 6 #[.agg #[.complex .f64 (f 0) (f 1), .float .f64 (f 2)]] w fun e w' => e = .returned (.bool false) ∧ Below w.heap.size w w')
    (tb : ∀ w, Calls Try.prog 7 #[.agg #[.complex .f64 (f 0) (f 1), .float .f64 (f 2)]] w fun e w' => e = .returned (.agg #[.float .f64 e1, .float .f64 e2, .float .f64 e3, .float .f64 e4]) ∧ Below w.heap.size w w')
    (ba : ∀ w, Calls Try.prog 9 #[.agg #[.float .f64 (f 3), .float .f64 (f 4), .float .f64 (f 5), .float .f64 (f 6)]] w fun e w' => e = .returned (.bool cb) ∧ Below w.heap.size w w')
    (td : ∀ w, Calls Try.prog 10 #[.agg #[.float .f64 (f 3), .float .f64 (f 4), .float .f64 (f 5), .float .f64 (f 6)]] w fun e w' => e = .returned (.agg #[.complex .f64 d1 d2, .float .f64 d3]) ∧ Below w.heap.size w w')
    (em : ∀ w, Calls Try.prog 12 #[] w fun e w' => e = .returned (.agg #[.float .f64 n1, .float .f64 n2]) ∧ Below w.heap.size w w')
    (a1 : ∀ w, Calls Try.prog 11 #[.agg #[.float .f64 e1, .float .f64 e2], .agg #[.float .f64 n1, .float .f64 n2]] w fun e w' => e = .returned (.bool false) ∧ Below w.heap.size w w')
    (fo : ∀ w, Calls Try.prog 13 #[.agg #[.complex .f64 d1 d2, .float .f64 d3]] w fun e w' => e = .returned (.bool true) ∧ Below w.heap.size w w')
    (no1 : ∀ w, Calls Try.prog 14 #[.agg #[.float .f64 e1, .float .f64 e2]] w fun e w' => e = .returned (.bool false) ∧ Below w.heap.size w w')
    (no2 : ∀ w, Calls Try.prog 14 #[.agg #[.float .f64 e3, .float .f64 e4]] w fun e w' => e = .returned (.bool false) ∧ Below w.heap.size w w')
    (hd : (Ieee.double.order d3 13830554455654793216 == some .eq) = cb)
    (w : World) (hl : Lst w v f) :
    Calls Try.prog 3 #[v] w fun e w' => e = .returned (.bool true) ∧ Below w.heap.size w w' := by
  go_enter Try.func3, Try.ntmps3
  go_wp2_with fail
  go_at_call 5
  refine (disc0_w v f _ hl).mono ?_
  rintro e w1 ⟨rfl, hb1⟩
  have s1 := hb1.size
  try simp at s1
  go_wp2_with fail
  go_at_call 6
  refine (lo _).mono ?_
  rintro e w2 ⟨rfl, hb2⟩
  have s2 := hb2.size
  try simp at s2
  have d20 : w2.cell? ⟨w1.heap.size, 0, none⟩ = some (.complex .f64 (f 0) (f 1)) := bkeep2 hb2 (by simp [go_sem])
  have d21 : w2.cell? ⟨w1.heap.size, 1, none⟩ = some (.float .f64 (f 2)) := bkeep2 hb2 (by simp [go_sem])
  have l0 : w1.heap.size < w2.heap.size := cell_lt d20
  go_wp2_with fail
  go_at_call 7
  refine (tb _).mono ?_
  rintro e w3 ⟨rfl, hb3⟩
  have s3 := hb3.size
  try simp at s3
  replace d20 := bkeep2 hb3 d20
  replace d21 := bkeep2 hb3 d21
  have l0 : w1.heap.size < w3.heap.size := cell_lt d20
  go_wp2_with fail
  go_at_call 8
  refine (box3_w v f _ (((((hl.below hb1).below (bl_alloc (Below.refl _ _))).below hb2).below hb3).below (bl_alloc (Below.refl _ _)))).mono ?_
  rintro e w4 ⟨rfl, hb4⟩
  have s4 := hb4.size
  try simp at s4
  replace d20 := bkeep3 hb4 d20
  replace d21 := bkeep3 hb4 d21
  have d40 : w4.cell? ⟨w3.heap.size, 0, none⟩ = some (.float .f64 e1) := bkeep2 hb4 (by simp [go_sem])
  have d41 : w4.cell? ⟨w3.heap.size, 1, none⟩ = some (.float .f64 e2) := bkeep2 hb4 (by simp [go_sem])
  have d42 : w4.cell? ⟨w3.heap.size, 2, none⟩ = some (.float .f64 e3) := bkeep2 hb4 (by simp [go_sem])
  have d43 : w4.cell? ⟨w3.heap.size, 3, none⟩ = some (.float .f64 e4) := bkeep2 hb4 (by simp [go_sem])
  have l0 : w1.heap.size < w4.heap.size := cell_lt d20
  have l1 : w3.heap.size < w4.heap.size := cell_lt d40
  go_wp2_with fail
  go_at_call 9
  refine (ba _).mono ?_
  rintro e w5 ⟨rfl, hb5⟩
  have s5 := hb5.size
  try simp at s5
  clear d20 d21
  replace d40 := bkeep3 hb5 d40
  replace d41 := bkeep3 hb5 d41
  replace d42 := bkeep3 hb5 d42
  replace d43 := bkeep3 hb5 d43
  have d50 : w5.cell? ⟨w4.heap.size, 0, none⟩ = some (.float .f64 (f 3)) := bkeep2 hb5 (by simp [go_sem])
  have d51 : w5.cell? ⟨w4.heap.size, 1, none⟩ = some (.float .f64 (f 4)) := bkeep2 hb5 (by simp [go_sem])
  have d52 : w5.cell? ⟨w4.heap.size, 2, none⟩ = some (.float .f64 (f 5)) := bkeep2 hb5 (by simp [go_sem])
  have d53 : w5.cell? ⟨w4.heap.size, 3, none⟩ = some (.float .f64 (f 6)) := bkeep2 hb5 (by simp [go_sem])
  have l0 : w3.heap.size < w5.heap.size := cell_lt d40
  have l1 : w4.heap.size < w5.heap.size := cell_lt d50
  go_wp2_with fail
  go_at_call 10
  refine (td _).mono ?_
  rintro e w6 ⟨rfl, hb6⟩
  have s6 := hb6.size
  try simp at s6
  replace d40 := bkeep2 hb6 d40
  replace d41 := bkeep2 hb6 d41
  replace d42 := bkeep2 hb6 d42
  replace d43 := bkeep2 hb6 d43
  replace d50 := bkeep2 hb6 d50
  replace d51 := bkeep2 hb6 d51
  replace d52 := bkeep2 hb6 d52
  replace d53 := bkeep2 hb6 d53
  have l0 : w3.heap.size < w6.heap.size := cell_lt d40
  have l1 : w4.heap.size < w6.heap.size := cell_lt d50
  go_wp2_with fail
  have lb : w3.heap.size < w6.heap.size := by omega
  obtain ⟨u0, hu0⟩ : ∃ u, u = w6.alloc (.cells #[.complex .f64 d1 d2, .float .f64 d3] 26) := ⟨_, rfl⟩
  rw [← hu0]
  have g00 : u0.cell? ⟨w3.heap.size, 0, none⟩ = some (.float .f64 e1) := by rw [hu0]; exact bkeep (bl_alloc (Below.refl _ _)) d40 (cell_lt d40)
  have g01 : u0.cell? ⟨w3.heap.size, 1, none⟩ = some (.float .f64 e2) := by rw [hu0]; exact bkeep (bl_alloc (Below.refl _ _)) d41 (cell_lt d41)
  have g02 : u0.cell? ⟨w3.heap.size, 2, none⟩ = some (.float .f64 e3) := by rw [hu0]; exact bkeep (bl_alloc (Below.refl _ _)) d42 (cell_lt d42)
  have g03 : u0.cell? ⟨w3.heap.size, 3, none⟩ = some (.float .f64 e4) := by rw [hu0]; exact bkeep (bl_alloc (Below.refl _ _)) d43 (cell_lt d43)
  have g10 : u0.cell? ⟨w6.heap.size, 0, none⟩ = some (.complex .f64 d1 d2) := by rw [hu0]; simp [go_sem]
  have g11 : u0.cell? ⟨w6.heap.size, 1, none⟩ = some (.float .f64 d3) := by rw [hu0]; simp [go_sem]
  have hbu : Below w6.heap.size w6 u0 := by rw [hu0]; exact bl_alloc (Below.refl _ _)
  have su := hbu.size
  clear hu0
  first | (go_region_with (first | (go_at_call 12; with_reducible refine (em _).mono ?_; rintro e w' ⟨rfl, hb⟩; have z00 := bkeep2 hb (p := ⟨w3.heap.size, 0, none⟩) (v := .float .f64 e1) (by first | (with_reducible assumption) | simp [*]); have z01 := bkeep2 hb (p := ⟨w3.heap.size, 1, none⟩) (v := .float .f64 e2) (by first | (with_reducible assumption) | simp [*]); have z02 := bkeep2 hb (p := ⟨w3.heap.size, 2, none⟩) (v := .float .f64 e3) (by first | (with_reducible assumption) | simp [*]); have z03 := bkeep2 hb (p := ⟨w3.heap.size, 3, none⟩) (v := .float .f64 e4) (by first | (with_reducible assumption) | simp [*]); have z10 := bkeep2 hb (p := ⟨w6.heap.size, 0, none⟩) (v := .complex .f64 d1 d2) (by first | (with_reducible assumption) | simp [*]); have z11 := bkeep2 hb (p := ⟨w6.heap.size, 1, none⟩) (v := .float .f64 d3) (by first | (with_reducible assumption) | simp [*])) | (go_at_call 11; with_reducible refine (a1 _).mono ?_; rintro e w' ⟨rfl, hb⟩; have z00 := bkeep2 hb (p := ⟨w3.heap.size, 0, none⟩) (v := .float .f64 e1) (by first | (with_reducible assumption) | simp [*]); have z01 := bkeep2 hb (p := ⟨w3.heap.size, 1, none⟩) (v := .float .f64 e2) (by first | (with_reducible assumption) | simp [*]); have z02 := bkeep2 hb (p := ⟨w3.heap.size, 2, none⟩) (v := .float .f64 e3) (by first | (with_reducible assumption) | simp [*]); have z03 := bkeep2 hb (p := ⟨w3.heap.size, 3, none⟩) (v := .float .f64 e4) (by first | (with_reducible assumption) | simp [*]); have z10 := bkeep2 hb (p := ⟨w6.heap.size, 0, none⟩) (v := .complex .f64 d1 d2) (by first | (with_reducible assumption) | simp [*]); have z11 := bkeep2 hb (p := ⟨w6.heap.size, 1, none⟩) (v := .float .f64 d3) (by first | (with_reducible assumption) | simp [*])))) | fail
  all_goals (go_wp2_with fail; go_at_call 13; refine (fo _).mono ?_; rintro e w7 ⟨rfl, hb7⟩; have x700 := bkeep2 hb7 (p := ⟨w3.heap.size, 0, none⟩) (v := .float .f64 e1) (by first | (with_reducible assumption) | simp [*]); have x701 := bkeep2 hb7 (p := ⟨w3.heap.size, 1, none⟩) (v := .float .f64 e2) (by first | (with_reducible assumption) | simp [*]); have x702 := bkeep2 hb7 (p := ⟨w3.heap.size, 2, none⟩) (v := .float .f64 e3) (by first | (with_reducible assumption) | simp [*]); have x703 := bkeep2 hb7 (p := ⟨w3.heap.size, 3, none⟩) (v := .float .f64 e4) (by first | (with_reducible assumption) | simp [*]); have x710 := bkeep2 hb7 (p := ⟨w6.heap.size, 0, none⟩) (v := .complex .f64 d1 d2) (by first | (with_reducible assumption) | simp [*]); have x711 := bkeep2 hb7 (p := ⟨w6.heap.size, 1, none⟩) (v := .float .f64 d3) (by first | (with_reducible assumption) | simp [*]); go_wp2_with fail; go_at_call 14; refine (no1 _).mono ?_; rintro e w8 ⟨rfl, hb8⟩; have x800 := bkeep2 hb8 (p := ⟨w3.heap.size, 0, none⟩) (v := .float .f64 e1) (by first | (with_reducible assumption) | simp [*]); have x801 := bkeep2 hb8 (p := ⟨w3.heap.size, 1, none⟩) (v := .float .f64 e2) (by first | (with_reducible assumption) | simp [*]); have x802 := bkeep2 hb8 (p := ⟨w3.heap.size, 2, none⟩) (v := .float .f64 e3) (by first | (with_reducible assumption) | simp [*]); have x803 := bkeep2 hb8 (p := ⟨w3.heap.size, 3, none⟩) (v := .float .f64 e4) (by first | (with_reducible assumption) | simp [*]); have x810 := bkeep2 hb8 (p := ⟨w6.heap.size, 0, none⟩) (v := .complex .f64 d1 d2) (by first | (with_reducible assumption) | simp [*]); have x811 := bkeep2 hb8 (p := ⟨w6.heap.size, 1, none⟩) (v := .float .f64 d3) (by first | (with_reducible assumption) | simp [*]); go_wp2_with fail; go_at_call 14; refine (no2 _).mono ?_; rintro e w9 ⟨rfl, hb9⟩; have x900 := bkeep2 hb9 (p := ⟨w3.heap.size, 0, none⟩) (v := .float .f64 e1) (by first | (with_reducible assumption) | simp [*]); have x901 := bkeep2 hb9 (p := ⟨w3.heap.size, 1, none⟩) (v := .float .f64 e2) (by first | (with_reducible assumption) | simp [*]); have x902 := bkeep2 hb9 (p := ⟨w3.heap.size, 2, none⟩) (v := .float .f64 e3) (by first | (with_reducible assumption) | simp [*]); have x903 := bkeep2 hb9 (p := ⟨w3.heap.size, 3, none⟩) (v := .float .f64 e4) (by first | (with_reducible assumption) | simp [*]); have x910 := bkeep2 hb9 (p := ⟨w6.heap.size, 0, none⟩) (v := .complex .f64 d1 d2) (by first | (with_reducible assumption) | simp [*]); have x911 := bkeep2 hb9 (p := ⟨w6.heap.size, 1, none⟩) (v := .float .f64 d3) (by first | (with_reducible assumption) | simp [*]); go_wp2_with fail; go_ret; refine ⟨rfl, ?_⟩; repeat (with_reducible first | exact Below.refl _ _ | assumption | refine Below.drew ?_ | refine bl_drewN ?_ _ | refine Below.setCell ?_ (by first | omega | (simp; done) | (simp; omega)) _ | refine Below.alloc ?_ (by first | omega | (simp; done) | (simp; omega)) _ | refine bl_next ?_ (by assumption) | refine bl_trans ?_ (by assumption) (by first | omega | (simp; done) | (simp; omega))))

end Go.Proofs.Ytacnclofbnafiab

namespace Go.Proofs.Ytacnclofbnafiab
open Go.RowKit Fl

theorem tb_yes : ∀ w, Calls Try.prog 11 #[.agg #[.float .f64 (B INF), .float .f64 (B (-INF))], .agg #[.float .f64 (B INF), .float .f64 (B (-INF))]] w fun e w' => e = .returned (.bool true) ∧ Below w.heap.size w w' :=
  alike_w _ _ (same_any _ (Key.at pl_inf).self) (same_any _ (Key.at pl_ninf).self)
theorem tb_no {k l : Int} (h : Iv (B k) (B l) k l) : ∀ w, Calls Try.prog 11 #[.agg #[.float .f64 (B k), .float .f64 (B l)], .agg #[.float .f64 (B INF), .float .f64 (B (-INF))]] w fun e w' => e = .returned (.bool false) ∧ Below w.heap.size w w' := by
  have hI := INF_pos
  have n1 : B k ≠ B INF := fun c => by
    have := B_inj h.x.pl.1 h.x.pl.2 (by omega) (Int.le_refl _) c
    have := h.lo
    omega
  by_cases c : B l = B (-INF)
  · rw [c]
    exact alike_f_w _ _ _ _ true (same_no h.x.self n1) (same_any _ (Key.at pl_ninf).self)
  · exact alike_f_w _ _ _ _ false (same_no h.x.self n1) (same_no h.y.self c)
/-- What ToBox answers: EMPTY twice just where there is no number. -/
theorem toBox_ans (F : Ops) {a b r : Nat} (ha : a < 18446744073709551616) (hb : b < 18446744073709551616) (hr : r < 18446744073709551616) :
    (∀ w, Calls Try.prog 6 #[.agg #[.complex .f64 a b, .float .f64 r]] w fun e w' => e = .returned (.bool true) ∧ Below w.heap.size w w') ∧ (∀ w, Calls Try.prog 7 #[.agg #[.complex .f64 a b, .float .f64 r]] w fun e w' => e = .returned (.agg #[.float .f64 (B INF), .float .f64 (B (-INF)), .float .f64 (B INF), .float .f64 (B (-INF))]) ∧ Below w.heap.size w w')
    ∨ ∃ k l m n, Iv (B k) (B l) k l ∧ Iv (B m) (B n) m n ∧ (∀ w, Calls Try.prog 6 #[.agg #[.complex .f64 a b, .float .f64 r]] w fun e w' => e = .returned (.bool false) ∧ Below w.heap.size w w') ∧ ∀ w, Calls Try.prog 7 #[.agg #[.complex .f64 a b, .float .f64 r]] w fun e w' => e = .returned (.agg #[.float .f64 (B k), .float .f64 (B l), .float .f64 (B m), .float .f64 (B n)]) ∧ Below w.heap.size w w' := by
  have hI := INF_pos
  rcases disc_cases a b r ha hb hr with ⟨x, y, t, h⟩ | h | h
  · right
    have r0 := h.r0
    have r1 := h.r1
    have i1 : Iv a a x x := ⟨h.ka, h.ka, Int.le_refl _, h.fa.2, h.fa.1⟩
    have i2 : Iv b b y y := ⟨h.kb, h.kb, Int.le_refl _, h.fb.2, h.fb.1⟩
    have j : Iv (B (-t)) r (-t) t := ⟨Key.at (pl_neg h.kr.pl), h.kr, by omega, by omega, by omega⟩
    exact ⟨_, _, _, _, padd_iv F i1 j, padd_iv F i2 j, rlone_fin h, toBox_fin F h⟩
  · have i : Iv (B (-INF)) (B INF) (-INF) INF := ⟨Key.at pl_ninf, Key.at pl_inf, by omega, by omega, by omega⟩
    exact .inr ⟨_, _, _, _, i, i, rlone_all h, toBox_all h⟩
  · exact .inl ⟨rlone_no ha hb h, toBox_no ha hb h⟩
/-- What ToDisc answers: the disc without numbers just where there is none. -/
theorem toDisc_ans (F : Ops) {X1 X2 X3 X4 : Nat} (h1 : X1 < 18446744073709551616) (h2 : X2 < 18446744073709551616) (h3 : X3 < 18446744073709551616) (h4 : X4 < 18446744073709551616) :
    ∃ (c : Bool) (e f i : Nat), (∀ w, Calls Try.prog 9 #[.agg #[.float .f64 X1, .float .f64 X2, .float .f64 X3, .float .f64 X4]] w fun e w' => e = .returned (.bool c) ∧ Below w.heap.size w w') ∧ (∀ w, Calls Try.prog 10 #[.agg #[.float .f64 X1, .float .f64 X2, .float .f64 X3, .float .f64 X4]] w fun e' w' => e' = .returned (.agg #[.complex .f64 e f, .float .f64 i]) ∧ Below w.heap.size w w')
      ∧ (∀ w, Calls Try.prog 13 #[.agg #[.complex .f64 e f, .float .f64 i]] w fun e w' => e = .returned (.bool true) ∧ Below w.heap.size w w') ∧ (Ieee.double.order i 13830554455654793216 == some .eq) = c := by
  rcases Bx.or X1 X2 X3 X4 with ⟨k, l, m, n, g, g2⟩ | g
  · obtain ⟨e, f, i, c, q⟩ := toDisc_some F g g2
    refine ⟨false, e, f, i, rbare_no g g2, c, ?_⟩
    rcases q with ⟨q, _⟩ | ⟨u, v, c, A, lt, rfl, rfl, rfl⟩
    · refine ⟨form_alld q, ?_⟩
      obtain ⟨_, _, rfl⟩ := q
      exact ne_mone (Key.at pl_inf) (by have := INF_pos; omega)
    · have z := (A.rad pl_zero (Int.le_refl _) lt).2.2.2.2.2
      exact ⟨form_fin A.fu A.fv z lt, ne_mone (Key.at (Fin.of z lt).pl) z⟩
  · obtain ⟨e, f, i, q, c⟩ := toDisc_no h1 h2 h3 h4 g
    refine ⟨true, e, f, i, rbare_yes h1 h2 h3 h4 g, c, form_nod q, ?_⟩
    obtain ⟨_, _, rfl⟩ := q
    rw [Key.mone.self]; rfl
theorem turns_any (v : Value) (f : Nat → Nat) (w : World) (hl : Lst w v f) : Calls Try.prog 3 #[v] w fun e w' => e = .returned (.bool true) ∧ Below w.heap.size w w' := by
  obtain ⟨F⟩ := ops
  have L := hl.lt
  obtain ⟨c, d1, d2, d3, ba, td, fo, hd⟩ := toDisc_ans F (L 3) (L 4) (L 5) (L 6)
  rcases toBox_ans F (L 0) (L 1) (L 2) with ⟨lo, tb⟩ | ⟨k, l, m, n, i1, i2, lo, tb⟩
  · exact turns_t_w v f _ _ _ _ d1 d2 d3 _ _ c lo tb ba td rempty tb_yes tb_yes fo (none_yes emp_no emp1 emp2) hd w hl
  · exact turns_f_w v f _ _ _ _ d1 d2 d3 _ _ c lo tb ba td rempty (tb_no i1) fo (none_no i1) (none_no i2) hd w hl
end Go.Proofs.Ytacnclofbnafiab
