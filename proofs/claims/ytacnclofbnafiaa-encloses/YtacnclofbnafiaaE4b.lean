import Derived.Test.YtacnclofbnafiaaE1
import Derived.Laws.Cover2
namespace Go.Proofs.Ytacnclofbnafiaa
open Go.RowKit Fl

set_option maxRecDepth 100000 in
set_option maxHeartbeats 8000000 in
theorem enc_ft_w (p0 q0 p q i1 : Int) (a b c d u v X1 X2 Y1 Y2 sa sb ta tb ma mb sw dw mw ka kb uu za zb ra rb au oa ob : Nat)
    (wp : ∀ w, Calls Try.prog 50 #[.int .i64 p0] w fun e w' => e = .returned (.int .i64 p) ∧ w' = w)
    (wq : ∀ w, Calls Try.prog 50 #[.int .i64 q0] w fun e w' => e = .returned (.int .i64 q) ∧ w' = w)
    (cu : floatOfInt .f64 p = u)
    (cv : floatOfInt .f64 q = v)
    (ax : ∀ w, Calls Try.prog 51 #[.float .f64 u, .float .f64 a, .float .f64 b] w fun e w' => e = .returned (.agg #[.float .f64 X1, .float .f64 X2]) ∧ Below w.heap.size w w')
    (ay : ∀ w, Calls Try.prog 51 #[.float .f64 v, .float .f64 c, .float .f64 d] w fun e w' => e = .returned (.agg #[.float .f64 Y1, .float .f64 Y2]) ∧ Below w.heap.size w w')
    (ca : ∀ w, Calls Try.prog 33 #[.agg #[.float .f64 X1, .float .f64 X2], .agg #[.float .f64 Y1, .float .f64 Y2]] w fun e w' => e = .returned (.agg #[.float .f64 sa, .float .f64 sb]) ∧ Below w.heap.size w w')
    (cs : ∀ w, Calls Try.prog 36 #[.agg #[.float .f64 X1, .float .f64 X2], .agg #[.float .f64 Y1, .float .f64 Y2]] w fun e w' => e = .returned (.agg #[.float .f64 ta, .float .f64 tb]) ∧ Below w.heap.size w w')
    (cm : ∀ w, Calls Try.prog 38 #[.agg #[.float .f64 X1, .float .f64 X2], .agg #[.float .f64 Y1, .float .f64 Y2]] w fun e w' => e = .returned (.agg #[.float .f64 ma, .float .f64 mb]) ∧ Below w.heap.size w w')
    (ha : Ieee.double.add u v = some sw)
    (hs : Ieee.double.sub u v = some dw)
    (hm : Ieee.double.mul u v = some mw)
    (hu : Ieee.double.mul u u = some uu)
    (ga : ∀ w, Calls Try.prog 52 #[.agg #[.float .f64 sa, .float .f64 sb], .float .f64 sw] w fun e w' => e = .returned (.bool true) ∧ Below w.heap.size w w')
    (gs : ∀ w, Calls Try.prog 52 #[.agg #[.float .f64 ta, .float .f64 tb], .float .f64 dw] w fun e w' => e = .returned (.bool true) ∧ Below w.heap.size w w')
    (gm : ∀ w, Calls Try.prog 52 #[.agg #[.float .f64 ma, .float .f64 mb], .float .f64 mw] w fun e w' => e = .returned (.bool true) ∧ Below w.heap.size w w')
    (cq : ∀ w, Calls Try.prog 42 #[.agg #[.float .f64 X1, .float .f64 X2]] w fun e w' => e = .returned (.agg #[.float .f64 ka, .float .f64 kb]) ∧ Below w.heap.size w w')
    (az : ∀ w, Calls Try.prog 51 #[.float .f64 uu, .float .f64 a, .float .f64 b] w fun e w' => e = .returned (.agg #[.float .f64 za, .float .f64 zb]) ∧ Below w.heap.size w w')
    (cr : ∀ w, Calls Try.prog 44 #[.agg #[.float .f64 za, .float .f64 zb]] w fun e w' => e = .returned (.agg #[.float .f64 ra, .float .f64 rb]) ∧ Below w.heap.size w w')
    (gk : ∀ w, Calls Try.prog 52 #[.agg #[.float .f64 ka, .float .f64 kb], .float .f64 uu] w fun e w' => e = .returned (.bool true) ∧ Below w.heap.size w w')
    (ab : ∀ w, Calls Try.prog 53 #[.float .f64 u] w fun e w' => e = .returned (.float .f64 au) ∧ Below w.heap.size w w')
    (gr : ∀ w, Calls Try.prog 52 #[.agg #[.float .f64 ra, .float .f64 rb], .float .f64 au] w fun e w' => e = .returned (.bool true) ∧ Below w.heap.size w w')
    (hq2 : (q == 0) = false)
    (cd : ∀ w, Calls Try.prog 40 #[.agg #[.float .f64 X1, .float .f64 X2], .agg #[.float .f64 Y1, .float .f64 Y2]] w fun e w' => e = .returned (.agg #[.float .f64 oa, .float .f64 ob]) ∧ Below w.heap.size w w')
    (no : ∀ w, Calls Try.prog 54 #[.agg #[.float .f64 oa, .float .f64 ob]] w fun e w' => e = .returned (.bool false) ∧ Below w.heap.size w w')
    (f1 : ∀ w, Calls Try.prog 29 #[.float .f64 oa, .int .i64 (-1)] w fun e w' => e = .returned (.bool false) ∧ w' = w)
    (f2 : ∀ w, Calls Try.prog 29 #[.float .f64 ob, .int .i64 1] w fun e w' => e = .returned (.bool true) ∧ w' = w)
    (sd1 : ∀ w, Calls Try.prog 55 #[.int .i64 2, .float .f64 u, .float .f64 v, .float .f64 oa] w fun e w' => e = .returned (.int .i64 i1) ∧ Below w.heap.size w w')
    (hi1 : 0 ≤ i1) (w : World) :
    Calls Try.prog 9 #[.int .i64 p0, .int .i64 q0, .float .f64 a, .float .f64 b, .float .f64 c, .float .f64 d] w fun e w' => e = .returned (.bool true) ∧ Below w.heap.size w w' := by
  have r1_ := fun t' w => run_float_arith (P := Try.prog) w .add t' .f64 _ _ _ ha
  have r2_ := fun t' w => run_float_arith (P := Try.prog) w .sub t' .f64 _ _ _ hs
  have r3_ := fun t' w => run_float_arith (P := Try.prog) w .mul t' .f64 _ _ _ hm
  have r4_ := fun t' w => run_float_arith (P := Try.prog) w .mul t' .f64 _ _ _ hu
  clear ha hs hm hu
  go_enter Try.func9, Try.ntmps9
  go_wp2_with fail
  go_at_call 50
  refine (wp _).mono ?_
  rintro e w' ⟨rfl, rfl⟩
  go_wp2_with fail
  go_at_call 50
  refine (wq _).mono ?_
  rintro e w' ⟨rfl, rfl⟩
  go_wp2_with fail
  go_at_call 51
  refine (ax _).mono ?_
  rintro e w1 ⟨rfl, hb1⟩
  have s1 := hb1.size
  try simp at s1
  go_wp2_with fail
  go_at_call 51
  refine (ay _).mono ?_
  rintro e w2 ⟨rfl, hb2⟩
  have s2 := hb2.size
  try simp at s2
  have l2_0 : w1.heap.size < w2.heap.size := (by omega)
  have c2_1_0 : w2.cell? ⟨w1.heap.size, 0, none⟩ = some (.float .f64 X1) := bkeep hb2 (by first | assumption | (simp [go_sem]; done) | (simp [*]; done) | (simp [go_sem, *]; done) | exact bkeep (bl_alloc (Below.refl _ _)) (by assumption) (by first | omega | (simp; done) | (simp; omega))) (by first | omega | (simp; done) | (simp; omega))
  have c2_2_1 : w2.cell? ⟨w1.heap.size, 1, none⟩ = some (.float .f64 X2) := bkeep hb2 (by first | assumption | (simp [go_sem]; done) | (simp [*]; done) | (simp [go_sem, *]; done) | exact bkeep (bl_alloc (Below.refl _ _)) (by assumption) (by first | omega | (simp; done) | (simp; omega))) (by first | omega | (simp; done) | (simp; omega))
  go_wp2_with fail
  go_at_call 33
  refine (ca _).mono ?_
  rintro e w3 ⟨rfl, hb3⟩
  have s3 := hb3.size
  try simp at s3
  have l3_0 : w1.heap.size < w3.heap.size := (by omega)
  have c3_1_0 : w3.cell? ⟨w1.heap.size, 0, none⟩ = some (.float .f64 X1) := bkeep hb3 (by first | assumption | (simp [go_sem]; done) | (simp [*]; done) | (simp [go_sem, *]; done) | exact bkeep (bl_alloc (Below.refl _ _)) (by assumption) (by first | omega | (simp; done) | (simp; omega))) (by first | omega | (simp; done) | (simp; omega))
  have c3_2_1 : w3.cell? ⟨w1.heap.size, 1, none⟩ = some (.float .f64 X2) := bkeep hb3 (by first | assumption | (simp [go_sem]; done) | (simp [*]; done) | (simp [go_sem, *]; done) | exact bkeep (bl_alloc (Below.refl _ _)) (by assumption) (by first | omega | (simp; done) | (simp; omega))) (by first | omega | (simp; done) | (simp; omega))
  have l3_3 : w2.heap.size < w3.heap.size := (by omega)
  have c3_4_0 : w3.cell? ⟨w2.heap.size, 0, none⟩ = some (.float .f64 Y1) := bkeep hb3 (by first | assumption | (simp [go_sem]; done) | (simp [*]; done) | (simp [go_sem, *]; done) | exact bkeep (bl_alloc (Below.refl _ _)) (by assumption) (by first | omega | (simp; done) | (simp; omega))) (by first | omega | (simp; done) | (simp; omega))
  have c3_5_1 : w3.cell? ⟨w2.heap.size, 1, none⟩ = some (.float .f64 Y2) := bkeep hb3 (by first | assumption | (simp [go_sem]; done) | (simp [*]; done) | (simp [go_sem, *]; done) | exact bkeep (bl_alloc (Below.refl _ _)) (by assumption) (by first | omega | (simp; done) | (simp; omega))) (by first | omega | (simp; done) | (simp; omega))
  clear l2_0 c2_1_0 c2_2_1
  go_wp2_with fail
  go_at_call 36
  refine (cs _).mono ?_
  rintro e w4 ⟨rfl, hb4⟩
  have s4 := hb4.size
  try simp at s4
  have l4_0 : w1.heap.size < w4.heap.size := (by omega)
  have c4_1_0 : w4.cell? ⟨w1.heap.size, 0, none⟩ = some (.float .f64 X1) := bkeep hb4 (by first | assumption | (simp [go_sem]; done) | (simp [*]; done) | (simp [go_sem, *]; done) | exact bkeep (bl_alloc (Below.refl _ _)) (by assumption) (by first | omega | (simp; done) | (simp; omega))) (by first | omega | (simp; done) | (simp; omega))
  have c4_2_1 : w4.cell? ⟨w1.heap.size, 1, none⟩ = some (.float .f64 X2) := bkeep hb4 (by first | assumption | (simp [go_sem]; done) | (simp [*]; done) | (simp [go_sem, *]; done) | exact bkeep (bl_alloc (Below.refl _ _)) (by assumption) (by first | omega | (simp; done) | (simp; omega))) (by first | omega | (simp; done) | (simp; omega))
  have l4_3 : w2.heap.size < w4.heap.size := (by omega)
  have c4_4_0 : w4.cell? ⟨w2.heap.size, 0, none⟩ = some (.float .f64 Y1) := bkeep hb4 (by first | assumption | (simp [go_sem]; done) | (simp [*]; done) | (simp [go_sem, *]; done) | exact bkeep (bl_alloc (Below.refl _ _)) (by assumption) (by first | omega | (simp; done) | (simp; omega))) (by first | omega | (simp; done) | (simp; omega))
  have c4_5_1 : w4.cell? ⟨w2.heap.size, 1, none⟩ = some (.float .f64 Y2) := bkeep hb4 (by first | assumption | (simp [go_sem]; done) | (simp [*]; done) | (simp [go_sem, *]; done) | exact bkeep (bl_alloc (Below.refl _ _)) (by assumption) (by first | omega | (simp; done) | (simp; omega))) (by first | omega | (simp; done) | (simp; omega))
  have l4_6 : w3.heap.size < w4.heap.size := (by omega)
  have c4_7_0 : w4.cell? ⟨w3.heap.size, 0, none⟩ = some (.float .f64 sa) := bkeep hb4 (by first | assumption | (simp [go_sem]; done) | (simp [*]; done) | (simp [go_sem, *]; done) | exact bkeep (bl_alloc (Below.refl _ _)) (by assumption) (by first | omega | (simp; done) | (simp; omega))) (by first | omega | (simp; done) | (simp; omega))
  have c4_8_1 : w4.cell? ⟨w3.heap.size, 1, none⟩ = some (.float .f64 sb) := bkeep hb4 (by first | assumption | (simp [go_sem]; done) | (simp [*]; done) | (simp [go_sem, *]; done) | exact bkeep (bl_alloc (Below.refl _ _)) (by assumption) (by first | omega | (simp; done) | (simp; omega))) (by first | omega | (simp; done) | (simp; omega))
  clear l3_0 c3_1_0 c3_2_1 l3_3 c3_4_0 c3_5_1
  go_wp2_with fail
  go_at_call 38
  refine (cm _).mono ?_
  rintro e w5 ⟨rfl, hb5⟩
  have s5 := hb5.size
  try simp at s5
  have l5_0 : w1.heap.size < w5.heap.size := (by omega)
  have c5_1_0 : w5.cell? ⟨w1.heap.size, 0, none⟩ = some (.float .f64 X1) := bkeep hb5 (by first | assumption | (simp [go_sem]; done) | (simp [*]; done) | (simp [go_sem, *]; done) | exact bkeep (bl_alloc (Below.refl _ _)) (by assumption) (by first | omega | (simp; done) | (simp; omega))) (by first | omega | (simp; done) | (simp; omega))
  have c5_2_1 : w5.cell? ⟨w1.heap.size, 1, none⟩ = some (.float .f64 X2) := bkeep hb5 (by first | assumption | (simp [go_sem]; done) | (simp [*]; done) | (simp [go_sem, *]; done) | exact bkeep (bl_alloc (Below.refl _ _)) (by assumption) (by first | omega | (simp; done) | (simp; omega))) (by first | omega | (simp; done) | (simp; omega))
  have l5_3 : w2.heap.size < w5.heap.size := (by omega)
  have c5_4_0 : w5.cell? ⟨w2.heap.size, 0, none⟩ = some (.float .f64 Y1) := bkeep hb5 (by first | assumption | (simp [go_sem]; done) | (simp [*]; done) | (simp [go_sem, *]; done) | exact bkeep (bl_alloc (Below.refl _ _)) (by assumption) (by first | omega | (simp; done) | (simp; omega))) (by first | omega | (simp; done) | (simp; omega))
  have c5_5_1 : w5.cell? ⟨w2.heap.size, 1, none⟩ = some (.float .f64 Y2) := bkeep hb5 (by first | assumption | (simp [go_sem]; done) | (simp [*]; done) | (simp [go_sem, *]; done) | exact bkeep (bl_alloc (Below.refl _ _)) (by assumption) (by first | omega | (simp; done) | (simp; omega))) (by first | omega | (simp; done) | (simp; omega))
  have l5_6 : w3.heap.size < w5.heap.size := (by omega)
  have c5_7_0 : w5.cell? ⟨w3.heap.size, 0, none⟩ = some (.float .f64 sa) := bkeep hb5 (by first | assumption | (simp [go_sem]; done) | (simp [*]; done) | (simp [go_sem, *]; done) | exact bkeep (bl_alloc (Below.refl _ _)) (by assumption) (by first | omega | (simp; done) | (simp; omega))) (by first | omega | (simp; done) | (simp; omega))
  have c5_8_1 : w5.cell? ⟨w3.heap.size, 1, none⟩ = some (.float .f64 sb) := bkeep hb5 (by first | assumption | (simp [go_sem]; done) | (simp [*]; done) | (simp [go_sem, *]; done) | exact bkeep (bl_alloc (Below.refl _ _)) (by assumption) (by first | omega | (simp; done) | (simp; omega))) (by first | omega | (simp; done) | (simp; omega))
  have l5_9 : w4.heap.size < w5.heap.size := (by omega)
  have c5_10_0 : w5.cell? ⟨w4.heap.size, 0, none⟩ = some (.float .f64 ta) := bkeep hb5 (by first | assumption | (simp [go_sem]; done) | (simp [*]; done) | (simp [go_sem, *]; done) | exact bkeep (bl_alloc (Below.refl _ _)) (by assumption) (by first | omega | (simp; done) | (simp; omega))) (by first | omega | (simp; done) | (simp; omega))
  have c5_11_1 : w5.cell? ⟨w4.heap.size, 1, none⟩ = some (.float .f64 tb) := bkeep hb5 (by first | assumption | (simp [go_sem]; done) | (simp [*]; done) | (simp [go_sem, *]; done) | exact bkeep (bl_alloc (Below.refl _ _)) (by assumption) (by first | omega | (simp; done) | (simp; omega))) (by first | omega | (simp; done) | (simp; omega))
  clear l4_0 c4_1_0 c4_2_1 l4_3 c4_4_0 c4_5_1 l4_6 c4_7_0 c4_8_1
  go_wp2_with fail
  go_at_call 52
  refine (ga _).mono ?_
  rintro e w6 ⟨rfl, hb6⟩
  have s6 := hb6.size
  try simp at s6
  have l6_0 : w1.heap.size < w6.heap.size := (by omega)
  have c6_1_0 : w6.cell? ⟨w1.heap.size, 0, none⟩ = some (.float .f64 X1) := bkeep hb6 (by first | assumption | (simp [go_sem]; done) | (simp [*]; done) | (simp [go_sem, *]; done) | exact bkeep (bl_alloc (Below.refl _ _)) (by assumption) (by first | omega | (simp; done) | (simp; omega))) (by first | omega | (simp; done) | (simp; omega))
  have c6_2_1 : w6.cell? ⟨w1.heap.size, 1, none⟩ = some (.float .f64 X2) := bkeep hb6 (by first | assumption | (simp [go_sem]; done) | (simp [*]; done) | (simp [go_sem, *]; done) | exact bkeep (bl_alloc (Below.refl _ _)) (by assumption) (by first | omega | (simp; done) | (simp; omega))) (by first | omega | (simp; done) | (simp; omega))
  have l6_3 : w2.heap.size < w6.heap.size := (by omega)
  have c6_4_0 : w6.cell? ⟨w2.heap.size, 0, none⟩ = some (.float .f64 Y1) := bkeep hb6 (by first | assumption | (simp [go_sem]; done) | (simp [*]; done) | (simp [go_sem, *]; done) | exact bkeep (bl_alloc (Below.refl _ _)) (by assumption) (by first | omega | (simp; done) | (simp; omega))) (by first | omega | (simp; done) | (simp; omega))
  have c6_5_1 : w6.cell? ⟨w2.heap.size, 1, none⟩ = some (.float .f64 Y2) := bkeep hb6 (by first | assumption | (simp [go_sem]; done) | (simp [*]; done) | (simp [go_sem, *]; done) | exact bkeep (bl_alloc (Below.refl _ _)) (by assumption) (by first | omega | (simp; done) | (simp; omega))) (by first | omega | (simp; done) | (simp; omega))
  have l6_6 : w4.heap.size < w6.heap.size := (by omega)
  have c6_7_0 : w6.cell? ⟨w4.heap.size, 0, none⟩ = some (.float .f64 ta) := bkeep hb6 (by first | assumption | (simp [go_sem]; done) | (simp [*]; done) | (simp [go_sem, *]; done) | exact bkeep (bl_alloc (Below.refl _ _)) (by assumption) (by first | omega | (simp; done) | (simp; omega))) (by first | omega | (simp; done) | (simp; omega))
  have c6_8_1 : w6.cell? ⟨w4.heap.size, 1, none⟩ = some (.float .f64 tb) := bkeep hb6 (by first | assumption | (simp [go_sem]; done) | (simp [*]; done) | (simp [go_sem, *]; done) | exact bkeep (bl_alloc (Below.refl _ _)) (by assumption) (by first | omega | (simp; done) | (simp; omega))) (by first | omega | (simp; done) | (simp; omega))
  have l6_9 : w5.heap.size < w6.heap.size := (by omega)
  have c6_10_0 : w6.cell? ⟨w5.heap.size, 0, none⟩ = some (.float .f64 ma) := bkeep hb6 (by first | assumption | (simp [go_sem]; done) | (simp [*]; done) | (simp [go_sem, *]; done) | exact bkeep (bl_alloc (Below.refl _ _)) (by assumption) (by first | omega | (simp; done) | (simp; omega))) (by first | omega | (simp; done) | (simp; omega))
  have c6_11_1 : w6.cell? ⟨w5.heap.size, 1, none⟩ = some (.float .f64 mb) := bkeep hb6 (by first | assumption | (simp [go_sem]; done) | (simp [*]; done) | (simp [go_sem, *]; done) | exact bkeep (bl_alloc (Below.refl _ _)) (by assumption) (by first | omega | (simp; done) | (simp; omega))) (by first | omega | (simp; done) | (simp; omega))
  clear l5_0 c5_1_0 c5_2_1 l5_3 c5_4_0 c5_5_1 l5_6 c5_7_0 c5_8_1 l5_9 c5_10_0 c5_11_1
  go_wp2_with fail
  go_at_call 52
  refine (gs _).mono ?_
  rintro e w7 ⟨rfl, hb7⟩
  have s7 := hb7.size
  try simp at s7
  have l7_0 : w1.heap.size < w7.heap.size := (by omega)
  have c7_1_0 : w7.cell? ⟨w1.heap.size, 0, none⟩ = some (.float .f64 X1) := bkeep hb7 (by first | assumption | (simp [go_sem]; done) | (simp [*]; done) | (simp [go_sem, *]; done) | exact bkeep (bl_alloc (Below.refl _ _)) (by assumption) (by first | omega | (simp; done) | (simp; omega))) (by first | omega | (simp; done) | (simp; omega))
  have c7_2_1 : w7.cell? ⟨w1.heap.size, 1, none⟩ = some (.float .f64 X2) := bkeep hb7 (by first | assumption | (simp [go_sem]; done) | (simp [*]; done) | (simp [go_sem, *]; done) | exact bkeep (bl_alloc (Below.refl _ _)) (by assumption) (by first | omega | (simp; done) | (simp; omega))) (by first | omega | (simp; done) | (simp; omega))
  have l7_3 : w2.heap.size < w7.heap.size := (by omega)
  have c7_4_0 : w7.cell? ⟨w2.heap.size, 0, none⟩ = some (.float .f64 Y1) := bkeep hb7 (by first | assumption | (simp [go_sem]; done) | (simp [*]; done) | (simp [go_sem, *]; done) | exact bkeep (bl_alloc (Below.refl _ _)) (by assumption) (by first | omega | (simp; done) | (simp; omega))) (by first | omega | (simp; done) | (simp; omega))
  have c7_5_1 : w7.cell? ⟨w2.heap.size, 1, none⟩ = some (.float .f64 Y2) := bkeep hb7 (by first | assumption | (simp [go_sem]; done) | (simp [*]; done) | (simp [go_sem, *]; done) | exact bkeep (bl_alloc (Below.refl _ _)) (by assumption) (by first | omega | (simp; done) | (simp; omega))) (by first | omega | (simp; done) | (simp; omega))
  have l7_6 : w5.heap.size < w7.heap.size := (by omega)
  have c7_7_0 : w7.cell? ⟨w5.heap.size, 0, none⟩ = some (.float .f64 ma) := bkeep hb7 (by first | assumption | (simp [go_sem]; done) | (simp [*]; done) | (simp [go_sem, *]; done) | exact bkeep (bl_alloc (Below.refl _ _)) (by assumption) (by first | omega | (simp; done) | (simp; omega))) (by first | omega | (simp; done) | (simp; omega))
  have c7_8_1 : w7.cell? ⟨w5.heap.size, 1, none⟩ = some (.float .f64 mb) := bkeep hb7 (by first | assumption | (simp [go_sem]; done) | (simp [*]; done) | (simp [go_sem, *]; done) | exact bkeep (bl_alloc (Below.refl _ _)) (by assumption) (by first | omega | (simp; done) | (simp; omega))) (by first | omega | (simp; done) | (simp; omega))
  clear l6_0 c6_1_0 c6_2_1 l6_3 c6_4_0 c6_5_1 l6_6 c6_7_0 c6_8_1 l6_9 c6_10_0 c6_11_1
  go_wp2_with fail
  go_at_call 52
  refine (gm _).mono ?_
  rintro e w8 ⟨rfl, hb8⟩
  have s8 := hb8.size
  try simp at s8
  have l8_0 : w1.heap.size < w8.heap.size := (by omega)
  have c8_1_0 : w8.cell? ⟨w1.heap.size, 0, none⟩ = some (.float .f64 X1) := bkeep hb8 (by first | assumption | (simp [go_sem]; done) | (simp [*]; done) | (simp [go_sem, *]; done) | exact bkeep (bl_alloc (Below.refl _ _)) (by assumption) (by first | omega | (simp; done) | (simp; omega))) (by first | omega | (simp; done) | (simp; omega))
  have c8_2_1 : w8.cell? ⟨w1.heap.size, 1, none⟩ = some (.float .f64 X2) := bkeep hb8 (by first | assumption | (simp [go_sem]; done) | (simp [*]; done) | (simp [go_sem, *]; done) | exact bkeep (bl_alloc (Below.refl _ _)) (by assumption) (by first | omega | (simp; done) | (simp; omega))) (by first | omega | (simp; done) | (simp; omega))
  have l8_3 : w2.heap.size < w8.heap.size := (by omega)
  have c8_4_0 : w8.cell? ⟨w2.heap.size, 0, none⟩ = some (.float .f64 Y1) := bkeep hb8 (by first | assumption | (simp [go_sem]; done) | (simp [*]; done) | (simp [go_sem, *]; done) | exact bkeep (bl_alloc (Below.refl _ _)) (by assumption) (by first | omega | (simp; done) | (simp; omega))) (by first | omega | (simp; done) | (simp; omega))
  have c8_5_1 : w8.cell? ⟨w2.heap.size, 1, none⟩ = some (.float .f64 Y2) := bkeep hb8 (by first | assumption | (simp [go_sem]; done) | (simp [*]; done) | (simp [go_sem, *]; done) | exact bkeep (bl_alloc (Below.refl _ _)) (by assumption) (by first | omega | (simp; done) | (simp; omega))) (by first | omega | (simp; done) | (simp; omega))
  clear l7_0 c7_1_0 c7_2_1 l7_3 c7_4_0 c7_5_1 l7_6 c7_7_0 c7_8_1
  go_wp2_with fail
  go_at_call 42
  refine (cq _).mono ?_
  rintro e w9 ⟨rfl, hb9⟩
  have s9 := hb9.size
  try simp at s9
  have l9_0 : w1.heap.size < w9.heap.size := (by omega)
  have c9_1_0 : w9.cell? ⟨w1.heap.size, 0, none⟩ = some (.float .f64 X1) := bkeep hb9 (by first | assumption | (simp [go_sem]; done) | (simp [*]; done) | (simp [go_sem, *]; done) | exact bkeep (bl_alloc (Below.refl _ _)) (by assumption) (by first | omega | (simp; done) | (simp; omega))) (by first | omega | (simp; done) | (simp; omega))
  have c9_2_1 : w9.cell? ⟨w1.heap.size, 1, none⟩ = some (.float .f64 X2) := bkeep hb9 (by first | assumption | (simp [go_sem]; done) | (simp [*]; done) | (simp [go_sem, *]; done) | exact bkeep (bl_alloc (Below.refl _ _)) (by assumption) (by first | omega | (simp; done) | (simp; omega))) (by first | omega | (simp; done) | (simp; omega))
  have l9_3 : w2.heap.size < w9.heap.size := (by omega)
  have c9_4_0 : w9.cell? ⟨w2.heap.size, 0, none⟩ = some (.float .f64 Y1) := bkeep hb9 (by first | assumption | (simp [go_sem]; done) | (simp [*]; done) | (simp [go_sem, *]; done) | exact bkeep (bl_alloc (Below.refl _ _)) (by assumption) (by first | omega | (simp; done) | (simp; omega))) (by first | omega | (simp; done) | (simp; omega))
  have c9_5_1 : w9.cell? ⟨w2.heap.size, 1, none⟩ = some (.float .f64 Y2) := bkeep hb9 (by first | assumption | (simp [go_sem]; done) | (simp [*]; done) | (simp [go_sem, *]; done) | exact bkeep (bl_alloc (Below.refl _ _)) (by assumption) (by first | omega | (simp; done) | (simp; omega))) (by first | omega | (simp; done) | (simp; omega))
  clear l8_0 c8_1_0 c8_2_1 l8_3 c8_4_0 c8_5_1
  go_wp2_with fail
  go_at_call 51
  refine (az _).mono ?_
  rintro e w10 ⟨rfl, hb10⟩
  have s10 := hb10.size
  try simp at s10
  have l10_0 : w1.heap.size < w10.heap.size := (by omega)
  have c10_1_0 : w10.cell? ⟨w1.heap.size, 0, none⟩ = some (.float .f64 X1) := bkeep hb10 (by first | assumption | (simp [go_sem]; done) | (simp [*]; done) | (simp [go_sem, *]; done) | exact bkeep (bl_alloc (Below.refl _ _)) (by assumption) (by first | omega | (simp; done) | (simp; omega))) (by first | omega | (simp; done) | (simp; omega))
  have c10_2_1 : w10.cell? ⟨w1.heap.size, 1, none⟩ = some (.float .f64 X2) := bkeep hb10 (by first | assumption | (simp [go_sem]; done) | (simp [*]; done) | (simp [go_sem, *]; done) | exact bkeep (bl_alloc (Below.refl _ _)) (by assumption) (by first | omega | (simp; done) | (simp; omega))) (by first | omega | (simp; done) | (simp; omega))
  have l10_3 : w2.heap.size < w10.heap.size := (by omega)
  have c10_4_0 : w10.cell? ⟨w2.heap.size, 0, none⟩ = some (.float .f64 Y1) := bkeep hb10 (by first | assumption | (simp [go_sem]; done) | (simp [*]; done) | (simp [go_sem, *]; done) | exact bkeep (bl_alloc (Below.refl _ _)) (by assumption) (by first | omega | (simp; done) | (simp; omega))) (by first | omega | (simp; done) | (simp; omega))
  have c10_5_1 : w10.cell? ⟨w2.heap.size, 1, none⟩ = some (.float .f64 Y2) := bkeep hb10 (by first | assumption | (simp [go_sem]; done) | (simp [*]; done) | (simp [go_sem, *]; done) | exact bkeep (bl_alloc (Below.refl _ _)) (by assumption) (by first | omega | (simp; done) | (simp; omega))) (by first | omega | (simp; done) | (simp; omega))
  have l10_6 : w9.heap.size < w10.heap.size := (by omega)
  have c10_7_0 : w10.cell? ⟨w9.heap.size, 0, none⟩ = some (.float .f64 ka) := bkeep hb10 (by first | assumption | (simp [go_sem]; done) | (simp [*]; done) | (simp [go_sem, *]; done) | exact bkeep (bl_alloc (Below.refl _ _)) (by assumption) (by first | omega | (simp; done) | (simp; omega))) (by first | omega | (simp; done) | (simp; omega))
  have c10_8_1 : w10.cell? ⟨w9.heap.size, 1, none⟩ = some (.float .f64 kb) := bkeep hb10 (by first | assumption | (simp [go_sem]; done) | (simp [*]; done) | (simp [go_sem, *]; done) | exact bkeep (bl_alloc (Below.refl _ _)) (by assumption) (by first | omega | (simp; done) | (simp; omega))) (by first | omega | (simp; done) | (simp; omega))
  clear l9_0 c9_1_0 c9_2_1 l9_3 c9_4_0 c9_5_1
  go_wp2_with fail
  go_at_call 44
  refine (cr _).mono ?_
  rintro e w11 ⟨rfl, hb11⟩
  have s11 := hb11.size
  try simp at s11
  have l11_0 : w1.heap.size < w11.heap.size := (by omega)
  have c11_1_0 : w11.cell? ⟨w1.heap.size, 0, none⟩ = some (.float .f64 X1) := bkeep hb11 (by first | assumption | (simp [go_sem]; done) | (simp [*]; done) | (simp [go_sem, *]; done) | exact bkeep (bl_alloc (Below.refl _ _)) (by assumption) (by first | omega | (simp; done) | (simp; omega))) (by first | omega | (simp; done) | (simp; omega))
  have c11_2_1 : w11.cell? ⟨w1.heap.size, 1, none⟩ = some (.float .f64 X2) := bkeep hb11 (by first | assumption | (simp [go_sem]; done) | (simp [*]; done) | (simp [go_sem, *]; done) | exact bkeep (bl_alloc (Below.refl _ _)) (by assumption) (by first | omega | (simp; done) | (simp; omega))) (by first | omega | (simp; done) | (simp; omega))
  have l11_3 : w2.heap.size < w11.heap.size := (by omega)
  have c11_4_0 : w11.cell? ⟨w2.heap.size, 0, none⟩ = some (.float .f64 Y1) := bkeep hb11 (by first | assumption | (simp [go_sem]; done) | (simp [*]; done) | (simp [go_sem, *]; done) | exact bkeep (bl_alloc (Below.refl _ _)) (by assumption) (by first | omega | (simp; done) | (simp; omega))) (by first | omega | (simp; done) | (simp; omega))
  have c11_5_1 : w11.cell? ⟨w2.heap.size, 1, none⟩ = some (.float .f64 Y2) := bkeep hb11 (by first | assumption | (simp [go_sem]; done) | (simp [*]; done) | (simp [go_sem, *]; done) | exact bkeep (bl_alloc (Below.refl _ _)) (by assumption) (by first | omega | (simp; done) | (simp; omega))) (by first | omega | (simp; done) | (simp; omega))
  have l11_6 : w9.heap.size < w11.heap.size := (by omega)
  have c11_7_0 : w11.cell? ⟨w9.heap.size, 0, none⟩ = some (.float .f64 ka) := bkeep hb11 (by first | assumption | (simp [go_sem]; done) | (simp [*]; done) | (simp [go_sem, *]; done) | exact bkeep (bl_alloc (Below.refl _ _)) (by assumption) (by first | omega | (simp; done) | (simp; omega))) (by first | omega | (simp; done) | (simp; omega))
  have c11_8_1 : w11.cell? ⟨w9.heap.size, 1, none⟩ = some (.float .f64 kb) := bkeep hb11 (by first | assumption | (simp [go_sem]; done) | (simp [*]; done) | (simp [go_sem, *]; done) | exact bkeep (bl_alloc (Below.refl _ _)) (by assumption) (by first | omega | (simp; done) | (simp; omega))) (by first | omega | (simp; done) | (simp; omega))
  clear l10_0 c10_1_0 c10_2_1 l10_3 c10_4_0 c10_5_1 l10_6 c10_7_0 c10_8_1
  have d0_0 : (w11.alloc (.cells #[.float .f64 ra, .float .f64 rb] 32)).cell? ⟨w1.heap.size, 0, none⟩ = some (.float .f64 X1) := bkeep (bl_alloc (Below.refl _ _)) (by assumption) (by first | omega | (simp; done) | (simp; omega))
  have d0_1 : (w11.alloc (.cells #[.float .f64 ra, .float .f64 rb] 32)).cell? ⟨w1.heap.size, 1, none⟩ = some (.float .f64 X2) := bkeep (bl_alloc (Below.refl _ _)) (by assumption) (by first | omega | (simp; done) | (simp; omega))
  have d1_0 : (w11.alloc (.cells #[.float .f64 ra, .float .f64 rb] 32)).cell? ⟨w2.heap.size, 0, none⟩ = some (.float .f64 Y1) := bkeep (bl_alloc (Below.refl _ _)) (by assumption) (by first | omega | (simp; done) | (simp; omega))
  have d1_1 : (w11.alloc (.cells #[.float .f64 ra, .float .f64 rb] 32)).cell? ⟨w2.heap.size, 1, none⟩ = some (.float .f64 Y2) := bkeep (bl_alloc (Below.refl _ _)) (by assumption) (by first | omega | (simp; done) | (simp; omega))
  have d2_0 : (w11.alloc (.cells #[.float .f64 ra, .float .f64 rb] 32)).cell? ⟨w9.heap.size, 0, none⟩ = some (.float .f64 ka) := bkeep (bl_alloc (Below.refl _ _)) (by assumption) (by first | omega | (simp; done) | (simp; omega))
  have d2_1 : (w11.alloc (.cells #[.float .f64 ra, .float .f64 rb] 32)).cell? ⟨w9.heap.size, 1, none⟩ = some (.float .f64 kb) := bkeep (bl_alloc (Below.refl _ _)) (by assumption) (by first | omega | (simp; done) | (simp; omega))
  have d3_0 : (w11.alloc (.cells #[.float .f64 ra, .float .f64 rb] 32)).cell? ⟨w11.heap.size, 0, none⟩ = some (.float .f64 ra) := by simp [go_sem]
  have d3_1 : (w11.alloc (.cells #[.float .f64 ra, .float .f64 rb] 32)).cell? ⟨w11.heap.size, 1, none⟩ = some (.float .f64 rb) := by simp [go_sem]
  have sA : w11.heap.size + 1 ≤ (w11.alloc (.cells #[.float .f64 ra, .float .f64 rb] 32)).heap.size := by simp
  have hBA : Below w11.heap.size w11 (w11.alloc (.cells #[.float .f64 ra, .float .f64 rb] 32)) := bl_alloc (Below.refl _ _)
  go_wp2_with fail
  generalize (w11.alloc (.cells #[.float .f64 ra, .float .f64 rb] 32)) = wA at *
  go_region_held3 (fun w' => w'.cell? ⟨w9.heap.size, 0, none⟩ = some (.float .f64 ka) ∧ w'.cell? ⟨w9.heap.size, 1, none⟩ = some (.float .f64 kb) ∧ w'.cell? ⟨w11.heap.size, 0, none⟩ = some (.float .f64 ra) ∧ w'.cell? ⟨w11.heap.size, 1, none⟩ = some (.float .f64 rb)) (((try dsimp only); (repeat' apply And.intro) <;> first | exact bkeep (W := wA) (n := wA.heap.size) (by repeat (first | exact Below.refl _ _ | assumption | refine Below.drew ?_ | refine bl_drewN ?_ _ | refine bl_alloc ?_ | refine bl_next ?_ (by assumption) | refine bl_set ?_ (by first | omega | (simp; done) | (simp; omega)))) (by assumption) (by first | omega | (simp; done) | (simp; omega)))) (first | (go_at_call 52; with_reducible refine (gk _).mono ?_; rintro e w' ⟨rfl, hb⟩) | (go_at_call 53; with_reducible refine (ab _).mono ?_; rintro e w' ⟨rfl, hb⟩) | (go_at_call 52; with_reducible refine (gr _).mono ?_; rintro e w' ⟨rfl, hb⟩))
  have sB : wA.heap.size ≤ w'.heap.size := Below.size (B := wA.heap.size) (by repeat (first | exact Below.refl _ _ | assumption | refine Below.drew ?_ | refine bl_drewN ?_ _ | refine bl_alloc ?_ | refine bl_next ?_ (by assumption) | refine bl_set ?_ (by first | omega | (simp; done) | (simp; omega))))
  have hBB : Below wA.heap.size wA w' := by
    repeat (first | exact Below.refl _ _ | assumption | refine Below.drew ?_ | refine bl_drewN ?_ _ | refine bl_alloc ?_ | refine bl_next ?_ (by assumption) | refine bl_set ?_ (by first | omega | (simp; done) | (simp; omega)))
  have e0_0 : w'.cell? ⟨w1.heap.size, 0, none⟩ = some (.float .f64 X1) := bkeep hBB (by assumption) (by first | omega | (simp; done) | (simp; omega))
  have e0_1 : w'.cell? ⟨w1.heap.size, 1, none⟩ = some (.float .f64 X2) := bkeep hBB (by assumption) (by first | omega | (simp; done) | (simp; omega))
  have e1_0 : w'.cell? ⟨w2.heap.size, 0, none⟩ = some (.float .f64 Y1) := bkeep hBB (by assumption) (by first | omega | (simp; done) | (simp; omega))
  have e1_1 : w'.cell? ⟨w2.heap.size, 1, none⟩ = some (.float .f64 Y2) := bkeep hBB (by assumption) (by first | omega | (simp; done) | (simp; omega))
  generalize w' = wB at *
  go_wp2_with fail
  go_at_call 40
  refine (cd _).mono ?_
  rintro e w12 ⟨rfl, hb12⟩
  have s12 := hb12.size
  try simp at s12
  go_wp2_with fail
  go_at_call 54
  refine (no _).mono ?_
  rintro e w13 ⟨rfl, hb13⟩
  have s13 := hb13.size
  try simp at s13
  have l13_0 : w12.heap.size < w13.heap.size := (by omega)
  have c13_1_0 : w13.cell? ⟨w12.heap.size, 0, none⟩ = some (.float .f64 oa) := bkeep hb13 (by first | assumption | (simp [go_sem]; done) | (simp [*]; done) | (simp [go_sem, *]; done) | exact bkeep (bl_alloc (Below.refl _ _)) (by assumption) (by first | omega | (simp; done) | (simp; omega))) (by first | omega | (simp; done) | (simp; omega))
  have c13_2_1 : w13.cell? ⟨w12.heap.size, 1, none⟩ = some (.float .f64 ob) := bkeep hb13 (by first | assumption | (simp [go_sem]; done) | (simp [*]; done) | (simp [go_sem, *]; done) | exact bkeep (bl_alloc (Below.refl _ _)) (by assumption) (by first | omega | (simp; done) | (simp; omega))) (by first | omega | (simp; done) | (simp; omega))
  go_wp2_with fail
  go_at_call 29
  refine (f1 _).mono ?_
  rintro e w' ⟨rfl, rfl⟩
  go_wp2_with fail
  go_at_call 55
  refine (sd1 _).mono ?_
  rintro e w14 ⟨rfl, hb14⟩
  have s14 := hb14.size
  try simp at s14
  have l14_0 : w12.heap.size < w14.heap.size := (by omega)
  have c14_1_0 : w14.cell? ⟨w12.heap.size, 0, none⟩ = some (.float .f64 oa) := bkeep hb14 (by first | assumption | (simp [go_sem]; done) | (simp [*]; done) | (simp [go_sem, *]; done) | exact bkeep (bl_alloc (Below.refl _ _)) (by assumption) (by first | omega | (simp; done) | (simp; omega))) (by first | omega | (simp; done) | (simp; omega))
  have c14_2_1 : w14.cell? ⟨w12.heap.size, 1, none⟩ = some (.float .f64 ob) := bkeep hb14 (by first | assumption | (simp [go_sem]; done) | (simp [*]; done) | (simp [go_sem, *]; done) | exact bkeep (bl_alloc (Below.refl _ _)) (by assumption) (by first | omega | (simp; done) | (simp; omega))) (by first | omega | (simp; done) | (simp; omega))
  clear l13_0 c13_1_0 c13_2_1
  go_wp2_with fail
  go_at_call 29
  refine (f2 _).mono ?_
  rintro e w' ⟨rfl, rfl⟩
  go_wp2_with fail
  go_ret
  refine ⟨rfl, ?_⟩
  repeat (first | exact Below.refl _ _ | assumption | refine Below.drew ?_ | refine bl_drewN ?_ _ | refine Below.setCell ?_ (by first | omega | (simp; done) | (simp; omega)) _ | refine Below.alloc ?_ (by first | omega | (simp; done) | (simp; omega)) _ | refine bl_next ?_ (by assumption) | refine bl_trans ?_ (by assumption) (by first | omega | (simp; done) | (simp; omega)))

set_option maxRecDepth 100000 in
set_option maxHeartbeats 8000000 in
theorem enc_ff_w (p0 q0 p q i1 i2 : Int) (a b c d u v X1 X2 Y1 Y2 sa sb ta tb ma mb sw dw mw ka kb uu za zb ra rb au oa ob : Nat)
    (wp : ∀ w, Calls Try.prog 50 #[.int .i64 p0] w fun e w' => e = .returned (.int .i64 p) ∧ w' = w)
    (wq : ∀ w, Calls Try.prog 50 #[.int .i64 q0] w fun e w' => e = .returned (.int .i64 q) ∧ w' = w)
    (cu : floatOfInt .f64 p = u)
    (cv : floatOfInt .f64 q = v)
    (ax : ∀ w, Calls Try.prog 51 #[.float .f64 u, .float .f64 a, .float .f64 b] w fun e w' => e = .returned (.agg #[.float .f64 X1, .float .f64 X2]) ∧ Below w.heap.size w w')
    (ay : ∀ w, Calls Try.prog 51 #[.float .f64 v, .float .f64 c, .float .f64 d] w fun e w' => e = .returned (.agg #[.float .f64 Y1, .float .f64 Y2]) ∧ Below w.heap.size w w')
    (ca : ∀ w, Calls Try.prog 33 #[.agg #[.float .f64 X1, .float .f64 X2], .agg #[.float .f64 Y1, .float .f64 Y2]] w fun e w' => e = .returned (.agg #[.float .f64 sa, .float .f64 sb]) ∧ Below w.heap.size w w')
    (cs : ∀ w, Calls Try.prog 36 #[.agg #[.float .f64 X1, .float .f64 X2], .agg #[.float .f64 Y1, .float .f64 Y2]] w fun e w' => e = .returned (.agg #[.float .f64 ta, .float .f64 tb]) ∧ Below w.heap.size w w')
    (cm : ∀ w, Calls Try.prog 38 #[.agg #[.float .f64 X1, .float .f64 X2], .agg #[.float .f64 Y1, .float .f64 Y2]] w fun e w' => e = .returned (.agg #[.float .f64 ma, .float .f64 mb]) ∧ Below w.heap.size w w')
    (ha : Ieee.double.add u v = some sw)
    (hs : Ieee.double.sub u v = some dw)
    (hm : Ieee.double.mul u v = some mw)
    (hu : Ieee.double.mul u u = some uu)
    (ga : ∀ w, Calls Try.prog 52 #[.agg #[.float .f64 sa, .float .f64 sb], .float .f64 sw] w fun e w' => e = .returned (.bool true) ∧ Below w.heap.size w w')
    (gs : ∀ w, Calls Try.prog 52 #[.agg #[.float .f64 ta, .float .f64 tb], .float .f64 dw] w fun e w' => e = .returned (.bool true) ∧ Below w.heap.size w w')
    (gm : ∀ w, Calls Try.prog 52 #[.agg #[.float .f64 ma, .float .f64 mb], .float .f64 mw] w fun e w' => e = .returned (.bool true) ∧ Below w.heap.size w w')
    (cq : ∀ w, Calls Try.prog 42 #[.agg #[.float .f64 X1, .float .f64 X2]] w fun e w' => e = .returned (.agg #[.float .f64 ka, .float .f64 kb]) ∧ Below w.heap.size w w')
    (az : ∀ w, Calls Try.prog 51 #[.float .f64 uu, .float .f64 a, .float .f64 b] w fun e w' => e = .returned (.agg #[.float .f64 za, .float .f64 zb]) ∧ Below w.heap.size w w')
    (cr : ∀ w, Calls Try.prog 44 #[.agg #[.float .f64 za, .float .f64 zb]] w fun e w' => e = .returned (.agg #[.float .f64 ra, .float .f64 rb]) ∧ Below w.heap.size w w')
    (gk : ∀ w, Calls Try.prog 52 #[.agg #[.float .f64 ka, .float .f64 kb], .float .f64 uu] w fun e w' => e = .returned (.bool true) ∧ Below w.heap.size w w')
    (ab : ∀ w, Calls Try.prog 53 #[.float .f64 u] w fun e w' => e = .returned (.float .f64 au) ∧ Below w.heap.size w w')
    (gr : ∀ w, Calls Try.prog 52 #[.agg #[.float .f64 ra, .float .f64 rb], .float .f64 au] w fun e w' => e = .returned (.bool true) ∧ Below w.heap.size w w')
    (hq2 : (q == 0) = false)
    (cd : ∀ w, Calls Try.prog 40 #[.agg #[.float .f64 X1, .float .f64 X2], .agg #[.float .f64 Y1, .float .f64 Y2]] w fun e w' => e = .returned (.agg #[.float .f64 oa, .float .f64 ob]) ∧ Below w.heap.size w w')
    (no : ∀ w, Calls Try.prog 54 #[.agg #[.float .f64 oa, .float .f64 ob]] w fun e w' => e = .returned (.bool false) ∧ Below w.heap.size w w')
    (f1 : ∀ w, Calls Try.prog 29 #[.float .f64 oa, .int .i64 (-1)] w fun e w' => e = .returned (.bool false) ∧ w' = w)
    (f2 : ∀ w, Calls Try.prog 29 #[.float .f64 ob, .int .i64 1] w fun e w' => e = .returned (.bool false) ∧ w' = w)
    (sd1 : ∀ w, Calls Try.prog 55 #[.int .i64 2, .float .f64 u, .float .f64 v, .float .f64 oa] w fun e w' => e = .returned (.int .i64 i1) ∧ Below w.heap.size w w')
    (hi1 : 0 ≤ i1)
    (sd2 : ∀ w, Calls Try.prog 55 #[.int .i64 2, .float .f64 u, .float .f64 v, .float .f64 ob] w fun e w' => e = .returned (.int .i64 i2) ∧ Below w.heap.size w w')
    (hi2 : i2 ≤ 0) (w : World) :
    Calls Try.prog 9 #[.int .i64 p0, .int .i64 q0, .float .f64 a, .float .f64 b, .float .f64 c, .float .f64 d] w fun e w' => e = .returned (.bool true) ∧ Below w.heap.size w w' := by
  have r1_ := fun t' w => run_float_arith (P := Try.prog) w .add t' .f64 _ _ _ ha
  have r2_ := fun t' w => run_float_arith (P := Try.prog) w .sub t' .f64 _ _ _ hs
  have r3_ := fun t' w => run_float_arith (P := Try.prog) w .mul t' .f64 _ _ _ hm
  have r4_ := fun t' w => run_float_arith (P := Try.prog) w .mul t' .f64 _ _ _ hu
  clear ha hs hm hu
  go_enter Try.func9, Try.ntmps9
  go_wp2_with fail
  go_at_call 50
  refine (wp _).mono ?_
  rintro e w' ⟨rfl, rfl⟩
  go_wp2_with fail
  go_at_call 50
  refine (wq _).mono ?_
  rintro e w' ⟨rfl, rfl⟩
  go_wp2_with fail
  go_at_call 51
  refine (ax _).mono ?_
  rintro e w1 ⟨rfl, hb1⟩
  have s1 := hb1.size
  try simp at s1
  go_wp2_with fail
  go_at_call 51
  refine (ay _).mono ?_
  rintro e w2 ⟨rfl, hb2⟩
  have s2 := hb2.size
  try simp at s2
  have l2_0 : w1.heap.size < w2.heap.size := (by omega)
  have c2_1_0 : w2.cell? ⟨w1.heap.size, 0, none⟩ = some (.float .f64 X1) := bkeep hb2 (by first | assumption | (simp [go_sem]; done) | (simp [*]; done) | (simp [go_sem, *]; done) | exact bkeep (bl_alloc (Below.refl _ _)) (by assumption) (by first | omega | (simp; done) | (simp; omega))) (by first | omega | (simp; done) | (simp; omega))
  have c2_2_1 : w2.cell? ⟨w1.heap.size, 1, none⟩ = some (.float .f64 X2) := bkeep hb2 (by first | assumption | (simp [go_sem]; done) | (simp [*]; done) | (simp [go_sem, *]; done) | exact bkeep (bl_alloc (Below.refl _ _)) (by assumption) (by first | omega | (simp; done) | (simp; omega))) (by first | omega | (simp; done) | (simp; omega))
  go_wp2_with fail
  go_at_call 33
  refine (ca _).mono ?_
  rintro e w3 ⟨rfl, hb3⟩
  have s3 := hb3.size
  try simp at s3
  have l3_0 : w1.heap.size < w3.heap.size := (by omega)
  have c3_1_0 : w3.cell? ⟨w1.heap.size, 0, none⟩ = some (.float .f64 X1) := bkeep hb3 (by first | assumption | (simp [go_sem]; done) | (simp [*]; done) | (simp [go_sem, *]; done) | exact bkeep (bl_alloc (Below.refl _ _)) (by assumption) (by first | omega | (simp; done) | (simp; omega))) (by first | omega | (simp; done) | (simp; omega))
  have c3_2_1 : w3.cell? ⟨w1.heap.size, 1, none⟩ = some (.float .f64 X2) := bkeep hb3 (by first | assumption | (simp [go_sem]; done) | (simp [*]; done) | (simp [go_sem, *]; done) | exact bkeep (bl_alloc (Below.refl _ _)) (by assumption) (by first | omega | (simp; done) | (simp; omega))) (by first | omega | (simp; done) | (simp; omega))
  have l3_3 : w2.heap.size < w3.heap.size := (by omega)
  have c3_4_0 : w3.cell? ⟨w2.heap.size, 0, none⟩ = some (.float .f64 Y1) := bkeep hb3 (by first | assumption | (simp [go_sem]; done) | (simp [*]; done) | (simp [go_sem, *]; done) | exact bkeep (bl_alloc (Below.refl _ _)) (by assumption) (by first | omega | (simp; done) | (simp; omega))) (by first | omega | (simp; done) | (simp; omega))
  have c3_5_1 : w3.cell? ⟨w2.heap.size, 1, none⟩ = some (.float .f64 Y2) := bkeep hb3 (by first | assumption | (simp [go_sem]; done) | (simp [*]; done) | (simp [go_sem, *]; done) | exact bkeep (bl_alloc (Below.refl _ _)) (by assumption) (by first | omega | (simp; done) | (simp; omega))) (by first | omega | (simp; done) | (simp; omega))
  clear l2_0 c2_1_0 c2_2_1
  go_wp2_with fail
  go_at_call 36
  refine (cs _).mono ?_
  rintro e w4 ⟨rfl, hb4⟩
  have s4 := hb4.size
  try simp at s4
  have l4_0 : w1.heap.size < w4.heap.size := (by omega)
  have c4_1_0 : w4.cell? ⟨w1.heap.size, 0, none⟩ = some (.float .f64 X1) := bkeep hb4 (by first | assumption | (simp [go_sem]; done) | (simp [*]; done) | (simp [go_sem, *]; done) | exact bkeep (bl_alloc (Below.refl _ _)) (by assumption) (by first | omega | (simp; done) | (simp; omega))) (by first | omega | (simp; done) | (simp; omega))
  have c4_2_1 : w4.cell? ⟨w1.heap.size, 1, none⟩ = some (.float .f64 X2) := bkeep hb4 (by first | assumption | (simp [go_sem]; done) | (simp [*]; done) | (simp [go_sem, *]; done) | exact bkeep (bl_alloc (Below.refl _ _)) (by assumption) (by first | omega | (simp; done) | (simp; omega))) (by first | omega | (simp; done) | (simp; omega))
  have l4_3 : w2.heap.size < w4.heap.size := (by omega)
  have c4_4_0 : w4.cell? ⟨w2.heap.size, 0, none⟩ = some (.float .f64 Y1) := bkeep hb4 (by first | assumption | (simp [go_sem]; done) | (simp [*]; done) | (simp [go_sem, *]; done) | exact bkeep (bl_alloc (Below.refl _ _)) (by assumption) (by first | omega | (simp; done) | (simp; omega))) (by first | omega | (simp; done) | (simp; omega))
  have c4_5_1 : w4.cell? ⟨w2.heap.size, 1, none⟩ = some (.float .f64 Y2) := bkeep hb4 (by first | assumption | (simp [go_sem]; done) | (simp [*]; done) | (simp [go_sem, *]; done) | exact bkeep (bl_alloc (Below.refl _ _)) (by assumption) (by first | omega | (simp; done) | (simp; omega))) (by first | omega | (simp; done) | (simp; omega))
  have l4_6 : w3.heap.size < w4.heap.size := (by omega)
  have c4_7_0 : w4.cell? ⟨w3.heap.size, 0, none⟩ = some (.float .f64 sa) := bkeep hb4 (by first | assumption | (simp [go_sem]; done) | (simp [*]; done) | (simp [go_sem, *]; done) | exact bkeep (bl_alloc (Below.refl _ _)) (by assumption) (by first | omega | (simp; done) | (simp; omega))) (by first | omega | (simp; done) | (simp; omega))
  have c4_8_1 : w4.cell? ⟨w3.heap.size, 1, none⟩ = some (.float .f64 sb) := bkeep hb4 (by first | assumption | (simp [go_sem]; done) | (simp [*]; done) | (simp [go_sem, *]; done) | exact bkeep (bl_alloc (Below.refl _ _)) (by assumption) (by first | omega | (simp; done) | (simp; omega))) (by first | omega | (simp; done) | (simp; omega))
  clear l3_0 c3_1_0 c3_2_1 l3_3 c3_4_0 c3_5_1
  go_wp2_with fail
  go_at_call 38
  refine (cm _).mono ?_
  rintro e w5 ⟨rfl, hb5⟩
  have s5 := hb5.size
  try simp at s5
  have l5_0 : w1.heap.size < w5.heap.size := (by omega)
  have c5_1_0 : w5.cell? ⟨w1.heap.size, 0, none⟩ = some (.float .f64 X1) := bkeep hb5 (by first | assumption | (simp [go_sem]; done) | (simp [*]; done) | (simp [go_sem, *]; done) | exact bkeep (bl_alloc (Below.refl _ _)) (by assumption) (by first | omega | (simp; done) | (simp; omega))) (by first | omega | (simp; done) | (simp; omega))
  have c5_2_1 : w5.cell? ⟨w1.heap.size, 1, none⟩ = some (.float .f64 X2) := bkeep hb5 (by first | assumption | (simp [go_sem]; done) | (simp [*]; done) | (simp [go_sem, *]; done) | exact bkeep (bl_alloc (Below.refl _ _)) (by assumption) (by first | omega | (simp; done) | (simp; omega))) (by first | omega | (simp; done) | (simp; omega))
  have l5_3 : w2.heap.size < w5.heap.size := (by omega)
  have c5_4_0 : w5.cell? ⟨w2.heap.size, 0, none⟩ = some (.float .f64 Y1) := bkeep hb5 (by first | assumption | (simp [go_sem]; done) | (simp [*]; done) | (simp [go_sem, *]; done) | exact bkeep (bl_alloc (Below.refl _ _)) (by assumption) (by first | omega | (simp; done) | (simp; omega))) (by first | omega | (simp; done) | (simp; omega))
  have c5_5_1 : w5.cell? ⟨w2.heap.size, 1, none⟩ = some (.float .f64 Y2) := bkeep hb5 (by first | assumption | (simp [go_sem]; done) | (simp [*]; done) | (simp [go_sem, *]; done) | exact bkeep (bl_alloc (Below.refl _ _)) (by assumption) (by first | omega | (simp; done) | (simp; omega))) (by first | omega | (simp; done) | (simp; omega))
  have l5_6 : w3.heap.size < w5.heap.size := (by omega)
  have c5_7_0 : w5.cell? ⟨w3.heap.size, 0, none⟩ = some (.float .f64 sa) := bkeep hb5 (by first | assumption | (simp [go_sem]; done) | (simp [*]; done) | (simp [go_sem, *]; done) | exact bkeep (bl_alloc (Below.refl _ _)) (by assumption) (by first | omega | (simp; done) | (simp; omega))) (by first | omega | (simp; done) | (simp; omega))
  have c5_8_1 : w5.cell? ⟨w3.heap.size, 1, none⟩ = some (.float .f64 sb) := bkeep hb5 (by first | assumption | (simp [go_sem]; done) | (simp [*]; done) | (simp [go_sem, *]; done) | exact bkeep (bl_alloc (Below.refl _ _)) (by assumption) (by first | omega | (simp; done) | (simp; omega))) (by first | omega | (simp; done) | (simp; omega))
  have l5_9 : w4.heap.size < w5.heap.size := (by omega)
  have c5_10_0 : w5.cell? ⟨w4.heap.size, 0, none⟩ = some (.float .f64 ta) := bkeep hb5 (by first | assumption | (simp [go_sem]; done) | (simp [*]; done) | (simp [go_sem, *]; done) | exact bkeep (bl_alloc (Below.refl _ _)) (by assumption) (by first | omega | (simp; done) | (simp; omega))) (by first | omega | (simp; done) | (simp; omega))
  have c5_11_1 : w5.cell? ⟨w4.heap.size, 1, none⟩ = some (.float .f64 tb) := bkeep hb5 (by first | assumption | (simp [go_sem]; done) | (simp [*]; done) | (simp [go_sem, *]; done) | exact bkeep (bl_alloc (Below.refl _ _)) (by assumption) (by first | omega | (simp; done) | (simp; omega))) (by first | omega | (simp; done) | (simp; omega))
  clear l4_0 c4_1_0 c4_2_1 l4_3 c4_4_0 c4_5_1 l4_6 c4_7_0 c4_8_1
  go_wp2_with fail
  go_at_call 52
  refine (ga _).mono ?_
  rintro e w6 ⟨rfl, hb6⟩
  have s6 := hb6.size
  try simp at s6
  have l6_0 : w1.heap.size < w6.heap.size := (by omega)
  have c6_1_0 : w6.cell? ⟨w1.heap.size, 0, none⟩ = some (.float .f64 X1) := bkeep hb6 (by first | assumption | (simp [go_sem]; done) | (simp [*]; done) | (simp [go_sem, *]; done) | exact bkeep (bl_alloc (Below.refl _ _)) (by assumption) (by first | omega | (simp; done) | (simp; omega))) (by first | omega | (simp; done) | (simp; omega))
  have c6_2_1 : w6.cell? ⟨w1.heap.size, 1, none⟩ = some (.float .f64 X2) := bkeep hb6 (by first | assumption | (simp [go_sem]; done) | (simp [*]; done) | (simp [go_sem, *]; done) | exact bkeep (bl_alloc (Below.refl _ _)) (by assumption) (by first | omega | (simp; done) | (simp; omega))) (by first | omega | (simp; done) | (simp; omega))
  have l6_3 : w2.heap.size < w6.heap.size := (by omega)
  have c6_4_0 : w6.cell? ⟨w2.heap.size, 0, none⟩ = some (.float .f64 Y1) := bkeep hb6 (by first | assumption | (simp [go_sem]; done) | (simp [*]; done) | (simp [go_sem, *]; done) | exact bkeep (bl_alloc (Below.refl _ _)) (by assumption) (by first | omega | (simp; done) | (simp; omega))) (by first | omega | (simp; done) | (simp; omega))
  have c6_5_1 : w6.cell? ⟨w2.heap.size, 1, none⟩ = some (.float .f64 Y2) := bkeep hb6 (by first | assumption | (simp [go_sem]; done) | (simp [*]; done) | (simp [go_sem, *]; done) | exact bkeep (bl_alloc (Below.refl _ _)) (by assumption) (by first | omega | (simp; done) | (simp; omega))) (by first | omega | (simp; done) | (simp; omega))
  have l6_6 : w4.heap.size < w6.heap.size := (by omega)
  have c6_7_0 : w6.cell? ⟨w4.heap.size, 0, none⟩ = some (.float .f64 ta) := bkeep hb6 (by first | assumption | (simp [go_sem]; done) | (simp [*]; done) | (simp [go_sem, *]; done) | exact bkeep (bl_alloc (Below.refl _ _)) (by assumption) (by first | omega | (simp; done) | (simp; omega))) (by first | omega | (simp; done) | (simp; omega))
  have c6_8_1 : w6.cell? ⟨w4.heap.size, 1, none⟩ = some (.float .f64 tb) := bkeep hb6 (by first | assumption | (simp [go_sem]; done) | (simp [*]; done) | (simp [go_sem, *]; done) | exact bkeep (bl_alloc (Below.refl _ _)) (by assumption) (by first | omega | (simp; done) | (simp; omega))) (by first | omega | (simp; done) | (simp; omega))
  have l6_9 : w5.heap.size < w6.heap.size := (by omega)
  have c6_10_0 : w6.cell? ⟨w5.heap.size, 0, none⟩ = some (.float .f64 ma) := bkeep hb6 (by first | assumption | (simp [go_sem]; done) | (simp [*]; done) | (simp [go_sem, *]; done) | exact bkeep (bl_alloc (Below.refl _ _)) (by assumption) (by first | omega | (simp; done) | (simp; omega))) (by first | omega | (simp; done) | (simp; omega))
  have c6_11_1 : w6.cell? ⟨w5.heap.size, 1, none⟩ = some (.float .f64 mb) := bkeep hb6 (by first | assumption | (simp [go_sem]; done) | (simp [*]; done) | (simp [go_sem, *]; done) | exact bkeep (bl_alloc (Below.refl _ _)) (by assumption) (by first | omega | (simp; done) | (simp; omega))) (by first | omega | (simp; done) | (simp; omega))
  clear l5_0 c5_1_0 c5_2_1 l5_3 c5_4_0 c5_5_1 l5_6 c5_7_0 c5_8_1 l5_9 c5_10_0 c5_11_1
  go_wp2_with fail
  go_at_call 52
  refine (gs _).mono ?_
  rintro e w7 ⟨rfl, hb7⟩
  have s7 := hb7.size
  try simp at s7
  have l7_0 : w1.heap.size < w7.heap.size := (by omega)
  have c7_1_0 : w7.cell? ⟨w1.heap.size, 0, none⟩ = some (.float .f64 X1) := bkeep hb7 (by first | assumption | (simp [go_sem]; done) | (simp [*]; done) | (simp [go_sem, *]; done) | exact bkeep (bl_alloc (Below.refl _ _)) (by assumption) (by first | omega | (simp; done) | (simp; omega))) (by first | omega | (simp; done) | (simp; omega))
  have c7_2_1 : w7.cell? ⟨w1.heap.size, 1, none⟩ = some (.float .f64 X2) := bkeep hb7 (by first | assumption | (simp [go_sem]; done) | (simp [*]; done) | (simp [go_sem, *]; done) | exact bkeep (bl_alloc (Below.refl _ _)) (by assumption) (by first | omega | (simp; done) | (simp; omega))) (by first | omega | (simp; done) | (simp; omega))
  have l7_3 : w2.heap.size < w7.heap.size := (by omega)
  have c7_4_0 : w7.cell? ⟨w2.heap.size, 0, none⟩ = some (.float .f64 Y1) := bkeep hb7 (by first | assumption | (simp [go_sem]; done) | (simp [*]; done) | (simp [go_sem, *]; done) | exact bkeep (bl_alloc (Below.refl _ _)) (by assumption) (by first | omega | (simp; done) | (simp; omega))) (by first | omega | (simp; done) | (simp; omega))
  have c7_5_1 : w7.cell? ⟨w2.heap.size, 1, none⟩ = some (.float .f64 Y2) := bkeep hb7 (by first | assumption | (simp [go_sem]; done) | (simp [*]; done) | (simp [go_sem, *]; done) | exact bkeep (bl_alloc (Below.refl _ _)) (by assumption) (by first | omega | (simp; done) | (simp; omega))) (by first | omega | (simp; done) | (simp; omega))
  have l7_6 : w5.heap.size < w7.heap.size := (by omega)
  have c7_7_0 : w7.cell? ⟨w5.heap.size, 0, none⟩ = some (.float .f64 ma) := bkeep hb7 (by first | assumption | (simp [go_sem]; done) | (simp [*]; done) | (simp [go_sem, *]; done) | exact bkeep (bl_alloc (Below.refl _ _)) (by assumption) (by first | omega | (simp; done) | (simp; omega))) (by first | omega | (simp; done) | (simp; omega))
  have c7_8_1 : w7.cell? ⟨w5.heap.size, 1, none⟩ = some (.float .f64 mb) := bkeep hb7 (by first | assumption | (simp [go_sem]; done) | (simp [*]; done) | (simp [go_sem, *]; done) | exact bkeep (bl_alloc (Below.refl _ _)) (by assumption) (by first | omega | (simp; done) | (simp; omega))) (by first | omega | (simp; done) | (simp; omega))
  clear l6_0 c6_1_0 c6_2_1 l6_3 c6_4_0 c6_5_1 l6_6 c6_7_0 c6_8_1 l6_9 c6_10_0 c6_11_1
  go_wp2_with fail
  go_at_call 52
  refine (gm _).mono ?_
  rintro e w8 ⟨rfl, hb8⟩
  have s8 := hb8.size
  try simp at s8
  have l8_0 : w1.heap.size < w8.heap.size := (by omega)
  have c8_1_0 : w8.cell? ⟨w1.heap.size, 0, none⟩ = some (.float .f64 X1) := bkeep hb8 (by first | assumption | (simp [go_sem]; done) | (simp [*]; done) | (simp [go_sem, *]; done) | exact bkeep (bl_alloc (Below.refl _ _)) (by assumption) (by first | omega | (simp; done) | (simp; omega))) (by first | omega | (simp; done) | (simp; omega))
  have c8_2_1 : w8.cell? ⟨w1.heap.size, 1, none⟩ = some (.float .f64 X2) := bkeep hb8 (by first | assumption | (simp [go_sem]; done) | (simp [*]; done) | (simp [go_sem, *]; done) | exact bkeep (bl_alloc (Below.refl _ _)) (by assumption) (by first | omega | (simp; done) | (simp; omega))) (by first | omega | (simp; done) | (simp; omega))
  have l8_3 : w2.heap.size < w8.heap.size := (by omega)
  have c8_4_0 : w8.cell? ⟨w2.heap.size, 0, none⟩ = some (.float .f64 Y1) := bkeep hb8 (by first | assumption | (simp [go_sem]; done) | (simp [*]; done) | (simp [go_sem, *]; done) | exact bkeep (bl_alloc (Below.refl _ _)) (by assumption) (by first | omega | (simp; done) | (simp; omega))) (by first | omega | (simp; done) | (simp; omega))
  have c8_5_1 : w8.cell? ⟨w2.heap.size, 1, none⟩ = some (.float .f64 Y2) := bkeep hb8 (by first | assumption | (simp [go_sem]; done) | (simp [*]; done) | (simp [go_sem, *]; done) | exact bkeep (bl_alloc (Below.refl _ _)) (by assumption) (by first | omega | (simp; done) | (simp; omega))) (by first | omega | (simp; done) | (simp; omega))
  clear l7_0 c7_1_0 c7_2_1 l7_3 c7_4_0 c7_5_1 l7_6 c7_7_0 c7_8_1
  go_wp2_with fail
  go_at_call 42
  refine (cq _).mono ?_
  rintro e w9 ⟨rfl, hb9⟩
  have s9 := hb9.size
  try simp at s9
  have l9_0 : w1.heap.size < w9.heap.size := (by omega)
  have c9_1_0 : w9.cell? ⟨w1.heap.size, 0, none⟩ = some (.float .f64 X1) := bkeep hb9 (by first | assumption | (simp [go_sem]; done) | (simp [*]; done) | (simp [go_sem, *]; done) | exact bkeep (bl_alloc (Below.refl _ _)) (by assumption) (by first | omega | (simp; done) | (simp; omega))) (by first | omega | (simp; done) | (simp; omega))
  have c9_2_1 : w9.cell? ⟨w1.heap.size, 1, none⟩ = some (.float .f64 X2) := bkeep hb9 (by first | assumption | (simp [go_sem]; done) | (simp [*]; done) | (simp [go_sem, *]; done) | exact bkeep (bl_alloc (Below.refl _ _)) (by assumption) (by first | omega | (simp; done) | (simp; omega))) (by first | omega | (simp; done) | (simp; omega))
  have l9_3 : w2.heap.size < w9.heap.size := (by omega)
  have c9_4_0 : w9.cell? ⟨w2.heap.size, 0, none⟩ = some (.float .f64 Y1) := bkeep hb9 (by first | assumption | (simp [go_sem]; done) | (simp [*]; done) | (simp [go_sem, *]; done) | exact bkeep (bl_alloc (Below.refl _ _)) (by assumption) (by first | omega | (simp; done) | (simp; omega))) (by first | omega | (simp; done) | (simp; omega))
  have c9_5_1 : w9.cell? ⟨w2.heap.size, 1, none⟩ = some (.float .f64 Y2) := bkeep hb9 (by first | assumption | (simp [go_sem]; done) | (simp [*]; done) | (simp [go_sem, *]; done) | exact bkeep (bl_alloc (Below.refl _ _)) (by assumption) (by first | omega | (simp; done) | (simp; omega))) (by first | omega | (simp; done) | (simp; omega))
  clear l8_0 c8_1_0 c8_2_1 l8_3 c8_4_0 c8_5_1
  go_wp2_with fail
  go_at_call 51
  refine (az _).mono ?_
  rintro e w10 ⟨rfl, hb10⟩
  have s10 := hb10.size
  try simp at s10
  have l10_0 : w1.heap.size < w10.heap.size := (by omega)
  have c10_1_0 : w10.cell? ⟨w1.heap.size, 0, none⟩ = some (.float .f64 X1) := bkeep hb10 (by first | assumption | (simp [go_sem]; done) | (simp [*]; done) | (simp [go_sem, *]; done) | exact bkeep (bl_alloc (Below.refl _ _)) (by assumption) (by first | omega | (simp; done) | (simp; omega))) (by first | omega | (simp; done) | (simp; omega))
  have c10_2_1 : w10.cell? ⟨w1.heap.size, 1, none⟩ = some (.float .f64 X2) := bkeep hb10 (by first | assumption | (simp [go_sem]; done) | (simp [*]; done) | (simp [go_sem, *]; done) | exact bkeep (bl_alloc (Below.refl _ _)) (by assumption) (by first | omega | (simp; done) | (simp; omega))) (by first | omega | (simp; done) | (simp; omega))
  have l10_3 : w2.heap.size < w10.heap.size := (by omega)
  have c10_4_0 : w10.cell? ⟨w2.heap.size, 0, none⟩ = some (.float .f64 Y1) := bkeep hb10 (by first | assumption | (simp [go_sem]; done) | (simp [*]; done) | (simp [go_sem, *]; done) | exact bkeep (bl_alloc (Below.refl _ _)) (by assumption) (by first | omega | (simp; done) | (simp; omega))) (by first | omega | (simp; done) | (simp; omega))
  have c10_5_1 : w10.cell? ⟨w2.heap.size, 1, none⟩ = some (.float .f64 Y2) := bkeep hb10 (by first | assumption | (simp [go_sem]; done) | (simp [*]; done) | (simp [go_sem, *]; done) | exact bkeep (bl_alloc (Below.refl _ _)) (by assumption) (by first | omega | (simp; done) | (simp; omega))) (by first | omega | (simp; done) | (simp; omega))
  have l10_6 : w9.heap.size < w10.heap.size := (by omega)
  have c10_7_0 : w10.cell? ⟨w9.heap.size, 0, none⟩ = some (.float .f64 ka) := bkeep hb10 (by first | assumption | (simp [go_sem]; done) | (simp [*]; done) | (simp [go_sem, *]; done) | exact bkeep (bl_alloc (Below.refl _ _)) (by assumption) (by first | omega | (simp; done) | (simp; omega))) (by first | omega | (simp; done) | (simp; omega))
  have c10_8_1 : w10.cell? ⟨w9.heap.size, 1, none⟩ = some (.float .f64 kb) := bkeep hb10 (by first | assumption | (simp [go_sem]; done) | (simp [*]; done) | (simp [go_sem, *]; done) | exact bkeep (bl_alloc (Below.refl _ _)) (by assumption) (by first | omega | (simp; done) | (simp; omega))) (by first | omega | (simp; done) | (simp; omega))
  clear l9_0 c9_1_0 c9_2_1 l9_3 c9_4_0 c9_5_1
  go_wp2_with fail
  go_at_call 44
  refine (cr _).mono ?_
  rintro e w11 ⟨rfl, hb11⟩
  have s11 := hb11.size
  try simp at s11
  have l11_0 : w1.heap.size < w11.heap.size := (by omega)
  have c11_1_0 : w11.cell? ⟨w1.heap.size, 0, none⟩ = some (.float .f64 X1) := bkeep hb11 (by first | assumption | (simp [go_sem]; done) | (simp [*]; done) | (simp [go_sem, *]; done) | exact bkeep (bl_alloc (Below.refl _ _)) (by assumption) (by first | omega | (simp; done) | (simp; omega))) (by first | omega | (simp; done) | (simp; omega))
  have c11_2_1 : w11.cell? ⟨w1.heap.size, 1, none⟩ = some (.float .f64 X2) := bkeep hb11 (by first | assumption | (simp [go_sem]; done) | (simp [*]; done) | (simp [go_sem, *]; done) | exact bkeep (bl_alloc (Below.refl _ _)) (by assumption) (by first | omega | (simp; done) | (simp; omega))) (by first | omega | (simp; done) | (simp; omega))
  have l11_3 : w2.heap.size < w11.heap.size := (by omega)
  have c11_4_0 : w11.cell? ⟨w2.heap.size, 0, none⟩ = some (.float .f64 Y1) := bkeep hb11 (by first | assumption | (simp [go_sem]; done) | (simp [*]; done) | (simp [go_sem, *]; done) | exact bkeep (bl_alloc (Below.refl _ _)) (by assumption) (by first | omega | (simp; done) | (simp; omega))) (by first | omega | (simp; done) | (simp; omega))
  have c11_5_1 : w11.cell? ⟨w2.heap.size, 1, none⟩ = some (.float .f64 Y2) := bkeep hb11 (by first | assumption | (simp [go_sem]; done) | (simp [*]; done) | (simp [go_sem, *]; done) | exact bkeep (bl_alloc (Below.refl _ _)) (by assumption) (by first | omega | (simp; done) | (simp; omega))) (by first | omega | (simp; done) | (simp; omega))
  have l11_6 : w9.heap.size < w11.heap.size := (by omega)
  have c11_7_0 : w11.cell? ⟨w9.heap.size, 0, none⟩ = some (.float .f64 ka) := bkeep hb11 (by first | assumption | (simp [go_sem]; done) | (simp [*]; done) | (simp [go_sem, *]; done) | exact bkeep (bl_alloc (Below.refl _ _)) (by assumption) (by first | omega | (simp; done) | (simp; omega))) (by first | omega | (simp; done) | (simp; omega))
  have c11_8_1 : w11.cell? ⟨w9.heap.size, 1, none⟩ = some (.float .f64 kb) := bkeep hb11 (by first | assumption | (simp [go_sem]; done) | (simp [*]; done) | (simp [go_sem, *]; done) | exact bkeep (bl_alloc (Below.refl _ _)) (by assumption) (by first | omega | (simp; done) | (simp; omega))) (by first | omega | (simp; done) | (simp; omega))
  clear l10_0 c10_1_0 c10_2_1 l10_3 c10_4_0 c10_5_1 l10_6 c10_7_0 c10_8_1
  have d0_0 : (w11.alloc (.cells #[.float .f64 ra, .float .f64 rb] 32)).cell? ⟨w1.heap.size, 0, none⟩ = some (.float .f64 X1) := bkeep (bl_alloc (Below.refl _ _)) (by assumption) (by first | omega | (simp; done) | (simp; omega))
  have d0_1 : (w11.alloc (.cells #[.float .f64 ra, .float .f64 rb] 32)).cell? ⟨w1.heap.size, 1, none⟩ = some (.float .f64 X2) := bkeep (bl_alloc (Below.refl _ _)) (by assumption) (by first | omega | (simp; done) | (simp; omega))
  have d1_0 : (w11.alloc (.cells #[.float .f64 ra, .float .f64 rb] 32)).cell? ⟨w2.heap.size, 0, none⟩ = some (.float .f64 Y1) := bkeep (bl_alloc (Below.refl _ _)) (by assumption) (by first | omega | (simp; done) | (simp; omega))
  have d1_1 : (w11.alloc (.cells #[.float .f64 ra, .float .f64 rb] 32)).cell? ⟨w2.heap.size, 1, none⟩ = some (.float .f64 Y2) := bkeep (bl_alloc (Below.refl _ _)) (by assumption) (by first | omega | (simp; done) | (simp; omega))
  have d2_0 : (w11.alloc (.cells #[.float .f64 ra, .float .f64 rb] 32)).cell? ⟨w9.heap.size, 0, none⟩ = some (.float .f64 ka) := bkeep (bl_alloc (Below.refl _ _)) (by assumption) (by first | omega | (simp; done) | (simp; omega))
  have d2_1 : (w11.alloc (.cells #[.float .f64 ra, .float .f64 rb] 32)).cell? ⟨w9.heap.size, 1, none⟩ = some (.float .f64 kb) := bkeep (bl_alloc (Below.refl _ _)) (by assumption) (by first | omega | (simp; done) | (simp; omega))
  have d3_0 : (w11.alloc (.cells #[.float .f64 ra, .float .f64 rb] 32)).cell? ⟨w11.heap.size, 0, none⟩ = some (.float .f64 ra) := by simp [go_sem]
  have d3_1 : (w11.alloc (.cells #[.float .f64 ra, .float .f64 rb] 32)).cell? ⟨w11.heap.size, 1, none⟩ = some (.float .f64 rb) := by simp [go_sem]
  have sA : w11.heap.size + 1 ≤ (w11.alloc (.cells #[.float .f64 ra, .float .f64 rb] 32)).heap.size := by simp
  have hBA : Below w11.heap.size w11 (w11.alloc (.cells #[.float .f64 ra, .float .f64 rb] 32)) := bl_alloc (Below.refl _ _)
  go_wp2_with fail
  generalize (w11.alloc (.cells #[.float .f64 ra, .float .f64 rb] 32)) = wA at *
  go_region_held3 (fun w' => w'.cell? ⟨w9.heap.size, 0, none⟩ = some (.float .f64 ka) ∧ w'.cell? ⟨w9.heap.size, 1, none⟩ = some (.float .f64 kb) ∧ w'.cell? ⟨w11.heap.size, 0, none⟩ = some (.float .f64 ra) ∧ w'.cell? ⟨w11.heap.size, 1, none⟩ = some (.float .f64 rb)) (((try dsimp only); (repeat' apply And.intro) <;> first | exact bkeep (W := wA) (n := wA.heap.size) (by repeat (first | exact Below.refl _ _ | assumption | refine Below.drew ?_ | refine bl_drewN ?_ _ | refine bl_alloc ?_ | refine bl_next ?_ (by assumption) | refine bl_set ?_ (by first | omega | (simp; done) | (simp; omega)))) (by assumption) (by first | omega | (simp; done) | (simp; omega)))) (first | (go_at_call 52; with_reducible refine (gk _).mono ?_; rintro e w' ⟨rfl, hb⟩) | (go_at_call 53; with_reducible refine (ab _).mono ?_; rintro e w' ⟨rfl, hb⟩) | (go_at_call 52; with_reducible refine (gr _).mono ?_; rintro e w' ⟨rfl, hb⟩))
  have sB : wA.heap.size ≤ w'.heap.size := Below.size (B := wA.heap.size) (by repeat (first | exact Below.refl _ _ | assumption | refine Below.drew ?_ | refine bl_drewN ?_ _ | refine bl_alloc ?_ | refine bl_next ?_ (by assumption) | refine bl_set ?_ (by first | omega | (simp; done) | (simp; omega))))
  have hBB : Below wA.heap.size wA w' := by
    repeat (first | exact Below.refl _ _ | assumption | refine Below.drew ?_ | refine bl_drewN ?_ _ | refine bl_alloc ?_ | refine bl_next ?_ (by assumption) | refine bl_set ?_ (by first | omega | (simp; done) | (simp; omega)))
  have e0_0 : w'.cell? ⟨w1.heap.size, 0, none⟩ = some (.float .f64 X1) := bkeep hBB (by assumption) (by first | omega | (simp; done) | (simp; omega))
  have e0_1 : w'.cell? ⟨w1.heap.size, 1, none⟩ = some (.float .f64 X2) := bkeep hBB (by assumption) (by first | omega | (simp; done) | (simp; omega))
  have e1_0 : w'.cell? ⟨w2.heap.size, 0, none⟩ = some (.float .f64 Y1) := bkeep hBB (by assumption) (by first | omega | (simp; done) | (simp; omega))
  have e1_1 : w'.cell? ⟨w2.heap.size, 1, none⟩ = some (.float .f64 Y2) := bkeep hBB (by assumption) (by first | omega | (simp; done) | (simp; omega))
  generalize w' = wB at *
  go_wp2_with fail
  go_at_call 40
  refine (cd _).mono ?_
  rintro e w12 ⟨rfl, hb12⟩
  have s12 := hb12.size
  try simp at s12
  go_wp2_with fail
  go_at_call 54
  refine (no _).mono ?_
  rintro e w13 ⟨rfl, hb13⟩
  have s13 := hb13.size
  try simp at s13
  have l13_0 : w12.heap.size < w13.heap.size := (by omega)
  have c13_1_0 : w13.cell? ⟨w12.heap.size, 0, none⟩ = some (.float .f64 oa) := bkeep hb13 (by first | assumption | (simp [go_sem]; done) | (simp [*]; done) | (simp [go_sem, *]; done) | exact bkeep (bl_alloc (Below.refl _ _)) (by assumption) (by first | omega | (simp; done) | (simp; omega))) (by first | omega | (simp; done) | (simp; omega))
  have c13_2_1 : w13.cell? ⟨w12.heap.size, 1, none⟩ = some (.float .f64 ob) := bkeep hb13 (by first | assumption | (simp [go_sem]; done) | (simp [*]; done) | (simp [go_sem, *]; done) | exact bkeep (bl_alloc (Below.refl _ _)) (by assumption) (by first | omega | (simp; done) | (simp; omega))) (by first | omega | (simp; done) | (simp; omega))
  go_wp2_with fail
  go_at_call 29
  refine (f1 _).mono ?_
  rintro e w' ⟨rfl, rfl⟩
  go_wp2_with fail
  go_at_call 55
  refine (sd1 _).mono ?_
  rintro e w14 ⟨rfl, hb14⟩
  have s14 := hb14.size
  try simp at s14
  have l14_0 : w12.heap.size < w14.heap.size := (by omega)
  have c14_1_0 : w14.cell? ⟨w12.heap.size, 0, none⟩ = some (.float .f64 oa) := bkeep hb14 (by first | assumption | (simp [go_sem]; done) | (simp [*]; done) | (simp [go_sem, *]; done) | exact bkeep (bl_alloc (Below.refl _ _)) (by assumption) (by first | omega | (simp; done) | (simp; omega))) (by first | omega | (simp; done) | (simp; omega))
  have c14_2_1 : w14.cell? ⟨w12.heap.size, 1, none⟩ = some (.float .f64 ob) := bkeep hb14 (by first | assumption | (simp [go_sem]; done) | (simp [*]; done) | (simp [go_sem, *]; done) | exact bkeep (bl_alloc (Below.refl _ _)) (by assumption) (by first | omega | (simp; done) | (simp; omega))) (by first | omega | (simp; done) | (simp; omega))
  clear l13_0 c13_1_0 c13_2_1
  go_wp2_with fail
  go_at_call 29
  refine (f2 _).mono ?_
  rintro e w' ⟨rfl, rfl⟩
  go_wp2_with fail
  go_at_call 55
  refine (sd2 _).mono ?_
  rintro e w15 ⟨rfl, hb15⟩
  have s15 := hb15.size
  try simp at s15
  clear l14_0 c14_1_0 c14_2_1
  go_wp2_with fail
  go_ret
  refine ⟨rfl, ?_⟩
  repeat (first | exact Below.refl _ _ | assumption | refine Below.drew ?_ | refine bl_drewN ?_ _ | refine Below.setCell ?_ (by first | omega | (simp; done) | (simp; omega)) _ | refine Below.alloc ?_ (by first | omega | (simp; done) | (simp; omega)) _ | refine bl_next ?_ (by assumption) | refine bl_trans ?_ (by assumption) (by first | omega | (simp; done) | (simp; omega)))

end Go.Proofs.Ytacnclofbnafiaa
