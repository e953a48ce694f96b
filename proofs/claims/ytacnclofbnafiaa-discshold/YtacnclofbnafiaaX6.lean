import Derived.Test.YtacnclofbnafiaaX4
import Derived.Test.YtacnclofbnafiaaX5
import Derived.Test.YtacnclofbnafiaaB2
namespace Go.Proofs.Ytacnclofbnafiaa
open Go.RowKit Fl

set_option maxRecDepth 100000 in
set_option maxHeartbeats 8000000 in
theorem discsHold_w (v : Value) (f : Nat → Nat) (p0 pi0 q0 qi0 p pi q qi : Int) (x xi y yi s si d di m mi : Nat)
    (w1 : ∀ w, Calls Try.prog 50 #[.int .i64 p0] w fun e w' => e = .returned (.int .i64 p) ∧ w' = w)
    (w2 : ∀ w, Calls Try.prog 50 #[.int .i64 pi0] w fun e w' => e = .returned (.int .i64 pi) ∧ w' = w)
    (w3 : ∀ w, Calls Try.prog 50 #[.int .i64 q0] w fun e w' => e = .returned (.int .i64 q) ∧ w' = w)
    (w4 : ∀ w, Calls Try.prog 50 #[.int .i64 qi0] w fun e w' => e = .returned (.int .i64 qi) ∧ w' = w)
    (bp : -1048576 ≤ p ∧ p ≤ 1048576) (bpi : -1048576 ≤ pi ∧ pi ≤ 1048576) (bq : -1048576 ≤ q ∧ q ≤ 1048576) (bqi : -1048576 ≤ qi ∧ qi ≤ 1048576)
    (cx : floatOfInt .f64 (p) = x)
    (cxi : floatOfInt .f64 (pi) = xi)
    (cy : floatOfInt .f64 (q) = y)
    (cyi : floatOfInt .f64 (qi) = yi)
    (cs : floatOfInt .f64 (p + q) = s)
    (csi : floatOfInt .f64 (pi + qi) = si)
    (cd : floatOfInt .f64 (p - q) = d)
    (cdi : floatOfInt .f64 (pi - qi) = di)
    (cm : floatOfInt .f64 (wrap64 (wrap64 (p * q) - wrap64 (pi * qi))) = m)
    (cmi : floatOfInt .f64 (wrap64 (wrap64 (p * qi) + wrap64 (pi * q))) = mi)
    (R : ∀ a b r a2 b2 r2 : Nat, a < 18446744073709551616 → b < 18446744073709551616 → r < 18446744073709551616 → a2 < 18446744073709551616 → b2 < 18446744073709551616 → r2 < 18446744073709551616 → ∃ v1 v2 : Bool, (∀ w, Calls Try.prog 66 #[.float .f64 x, .float .f64 xi, .agg #[.complex .f64 a b, .float .f64 r]] w fun e w' => e = .returned (.bool v1) ∧ Below w.heap.size w w') ∧ (∀ w, Calls Try.prog 66 #[.float .f64 y, .float .f64 yi, .agg #[.complex .f64 a2 b2, .float .f64 r2]] w fun e w' => e = .returned (.bool v2) ∧ Below w.heap.size w w') ∧ (v1 = true → v2 = true → ∃ e1 f1 i1 e2 f2 i2 e3 f3 i3 : Nat, (∀ w, Calls Try.prog 67 #[.agg #[.complex .f64 a b, .float .f64 r], .agg #[.complex .f64 a2 b2, .float .f64 r2]] w fun e w' => e = .returned (.agg #[.complex .f64 e1 f1, .float .f64 i1]) ∧ Below w.heap.size w w') ∧ (∀ w, Calls Try.prog 68 #[.agg #[.complex .f64 a b, .float .f64 r], .agg #[.complex .f64 a2 b2, .float .f64 r2]] w fun e w' => e = .returned (.agg #[.complex .f64 e2 f2, .float .f64 i2]) ∧ Below w.heap.size w w') ∧ (∀ w, Calls Try.prog 69 #[.agg #[.complex .f64 a b, .float .f64 r], .agg #[.complex .f64 a2 b2, .float .f64 r2]] w fun e w' => e = .returned (.agg #[.complex .f64 e3 f3, .float .f64 i3]) ∧ Below w.heap.size w w') ∧ (∀ w, Calls Try.prog 66 #[.float .f64 s, .float .f64 si, .agg #[.complex .f64 e1 f1, .float .f64 i1]] w fun e w' => e = .returned (.bool true) ∧ Below w.heap.size w w') ∧ (∀ w, Calls Try.prog 66 #[.float .f64 d, .float .f64 di, .agg #[.complex .f64 e2 f2, .float .f64 i2]] w fun e w' => e = .returned (.bool true) ∧ Below w.heap.size w w') ∧ (∀ w, Calls Try.prog 66 #[.float .f64 m, .float .f64 mi, .agg #[.complex .f64 e3 f3, .float .f64 i3]] w fun e w' => e = .returned (.bool true) ∧ Below w.heap.size w w') ∧ (∀ w, Calls Try.prog 70 #[.agg #[.complex .f64 e1 f1, .float .f64 i1]] w fun e w' => e = .returned (.bool true) ∧ Below w.heap.size w w') ∧ (∀ w, Calls Try.prog 70 #[.agg #[.complex .f64 e2 f2, .float .f64 i2]] w fun e w' => e = .returned (.bool true) ∧ Below w.heap.size w w') ∧ (∀ w, Calls Try.prog 70 #[.agg #[.complex .f64 e3 f3, .float .f64 i3]] w fun e w' => e = .returned (.bool true) ∧ Below w.heap.size w w')))
    (hf : ∀ i, f i < 18446744073709551616)
    (w : World) (hl : Lst w v f) :
    Calls Try.prog 12 #[.int .i64 p0, .int .i64 pi0, .int .i64 q0, .int .i64 qi0, v] w fun e w' => e = .returned (.bool true) ∧ Below w.heap.size w w' := by
  go_enter Try.func12, Try.ntmps12
  go_wp2_with fail
  go_at_call 50
  refine (w1 _).mono ?_
  rintro e w' ⟨rfl, rfl⟩
  go_wp2_with fail
  go_at_call 50
  refine (w2 _).mono ?_
  rintro e w' ⟨rfl, rfl⟩
  go_wp2_with fail
  go_at_call 50
  refine (w3 _).mono ?_
  rintro e w' ⟨rfl, rfl⟩
  go_wp2_with fail
  go_at_call 50
  refine (w4 _).mono ?_
  rintro e w' ⟨rfl, rfl⟩
  go_wp2_with fail
  go_at_call 65
  refine (at_n hl 0 0 rfl (by decide)).mono ?_
  rintro e w' ⟨rfl, rfl⟩
  go_wp2_with fail
  go_at_call 65
  refine (at_n hl 1 1 rfl (by decide)).mono ?_
  rintro e w' ⟨rfl, rfl⟩
  go_wp2_with fail
  go_at_call 65
  refine (at_n hl 2 2 rfl (by decide)).mono ?_
  rintro e w' ⟨rfl, rfl⟩
  go_wp2_with fail
  go_at_call 64
  refine (about_any _ _ _ _ _ (hf 0) (hf 1) (hf 2) _).mono ?_
  rintro e w1 ⟨⟨a, b, r, rfl, ba, bb, br⟩, hb1⟩
  have s1 := hb1.size
  try simp at s1
  go_wp2_with fail
  have hl1 := (hl.below hb1).below (bl_alloc (o := .cells #[.complex .f64 a b, .float .f64 r] 55) (Below.refl _ _))
  go_at_call 65
  refine (at_n hl1 3 3 rfl (by decide)).mono ?_
  rintro e w' ⟨rfl, rfl⟩
  go_wp2_with fail
  go_at_call 65
  refine (at_n hl1 4 4 rfl (by decide)).mono ?_
  rintro e w' ⟨rfl, rfl⟩
  go_wp2_with fail
  go_at_call 65
  refine (at_n hl1 5 5 rfl (by decide)).mono ?_
  rintro e w' ⟨rfl, rfl⟩
  go_wp2_with fail
  go_at_call 64
  refine (about_any _ _ _ _ _ (hf 3) (hf 4) (hf 5) _).mono ?_
  rintro e w2 ⟨⟨a2, b2, r2, rfl, ba2, bb2, br2⟩, hb2⟩
  have s2 := hb2.size
  try simp at s2
  have d20 : w2.cell? ⟨w1.heap.size, 0, none⟩ = some (.complex .f64 a b) := bkeep2 hb2 (by simp [go_sem])
  have d21 : w2.cell? ⟨w1.heap.size, 1, none⟩ = some (.float .f64 r) := bkeep2 hb2 (by simp [go_sem])
  have l0 : w1.heap.size < w2.heap.size := cell_lt d20
  obtain ⟨v1, v2, c1, c2, rest⟩ := R a b r a2 b2 r2 ba bb br ba2 bb2 br2
  clear R hl hl1 hf ba bb br ba2 bb2 br2
  go_wp2_with fail
  go_at_call 66
  refine (c1 _).mono ?_
  rintro e w3 ⟨rfl, hb3⟩
  have s3 := hb3.size
  try simp at s3
  replace d20 := bkeep3 hb3 d20
  replace d21 := bkeep3 hb3 d21
  have d30 : w3.cell? ⟨w2.heap.size, 0, none⟩ = some (.complex .f64 a2 b2) := bkeep2 hb3 (by simp [go_sem])
  have d31 : w3.cell? ⟨w2.heap.size, 1, none⟩ = some (.float .f64 r2) := bkeep2 hb3 (by simp [go_sem])
  have l0 : w1.heap.size < w3.heap.size := cell_lt d20
  have l1 : w2.heap.size < w3.heap.size := cell_lt d30
  go_wp2_with fail
  go_at_call 66
  refine (c2 _).mono ?_
  rintro e w4 ⟨rfl, hb4⟩
  have s4 := hb4.size
  try simp at s4
  replace d20 := bkeep2 hb4 d20
  replace d21 := bkeep2 hb4 d21
  replace d30 := bkeep2 hb4 d30
  replace d31 := bkeep2 hb4 d31
  have l0 : w1.heap.size < w4.heap.size := cell_lt d20
  have l1 : w2.heap.size < w4.heap.size := cell_lt d30
  rcases v1 with _ | _
  · go_wp2_with fail; go_ret; refine ⟨rfl, ?_⟩; repeat (with_reducible first | exact Below.refl _ _ | assumption | refine Below.drew ?_ | refine bl_drewN ?_ _ | refine Below.setCell ?_ (by first | omega | (simp; done) | (simp; omega)) _ | refine Below.alloc ?_ (by first | omega | (simp; done) | (simp; omega)) _ | refine bl_next ?_ (by assumption) | refine bl_trans ?_ (by assumption) (by first | omega | (simp; done) | (simp; omega)))
  rcases v2 with _ | _
  · go_wp2_with fail; go_ret; refine ⟨rfl, ?_⟩; repeat (with_reducible first | exact Below.refl _ _ | assumption | refine Below.drew ?_ | refine bl_drewN ?_ _ | refine Below.setCell ?_ (by first | omega | (simp; done) | (simp; omega)) _ | refine Below.alloc ?_ (by first | omega | (simp; done) | (simp; omega)) _ | refine bl_next ?_ (by assumption) | refine bl_trans ?_ (by assumption) (by first | omega | (simp; done) | (simp; omega)))
  obtain ⟨e1, f1, i1, e2, f2, i2, e3, f3, i3, ds, dd, dm, js, jd, jm, ms, md, mm⟩ := rest rfl rfl
  clear rest
  go_wp2_with fail
  go_at_call 67
  refine (ds _).mono ?_
  rintro e w5 ⟨rfl, hb5⟩
  have s5 := hb5.size
  try simp at s5
  replace d20 := bkeep2 hb5 d20
  replace d21 := bkeep2 hb5 d21
  replace d30 := bkeep2 hb5 d30
  replace d31 := bkeep2 hb5 d31
  have l0 : w1.heap.size < w5.heap.size := cell_lt d20
  have l1 : w2.heap.size < w5.heap.size := cell_lt d30
  go_wp2_with fail
  go_at_call 68
  refine (dd _).mono ?_
  rintro e w6 ⟨rfl, hb6⟩
  have s6 := hb6.size
  try simp at s6
  replace d20 := bkeep3 hb6 d20
  replace d21 := bkeep3 hb6 d21
  replace d30 := bkeep3 hb6 d30
  replace d31 := bkeep3 hb6 d31
  have d60 : w6.cell? ⟨w5.heap.size, 0, none⟩ = some (.complex .f64 e1 f1) := bkeep2 hb6 (by simp [go_sem])
  have d61 : w6.cell? ⟨w5.heap.size, 1, none⟩ = some (.float .f64 i1) := bkeep2 hb6 (by simp [go_sem])
  have l0 : w1.heap.size < w6.heap.size := cell_lt d20
  have l1 : w2.heap.size < w6.heap.size := cell_lt d30
  have l2 : w5.heap.size < w6.heap.size := cell_lt d60
  go_wp2_with fail
  go_at_call 69
  refine (dm _).mono ?_
  rintro e w7 ⟨rfl, hb7⟩
  have s7 := hb7.size
  try simp at s7
  replace d20 := bkeep3 hb7 d20
  replace d21 := bkeep3 hb7 d21
  replace d30 := bkeep3 hb7 d30
  replace d31 := bkeep3 hb7 d31
  replace d60 := bkeep3 hb7 d60
  replace d61 := bkeep3 hb7 d61
  have d70 : w7.cell? ⟨w6.heap.size, 0, none⟩ = some (.complex .f64 e2 f2) := bkeep2 hb7 (by simp [go_sem])
  have d71 : w7.cell? ⟨w6.heap.size, 1, none⟩ = some (.float .f64 i2) := bkeep2 hb7 (by simp [go_sem])
  have l0 : w1.heap.size < w7.heap.size := cell_lt d20
  have l1 : w2.heap.size < w7.heap.size := cell_lt d30
  have l2 : w5.heap.size < w7.heap.size := cell_lt d60
  have l3 : w6.heap.size < w7.heap.size := cell_lt d70
  go_wp2_with fail
  go_at_call 66
  refine (js _).mono ?_
  rintro e w8 ⟨rfl, hb8⟩
  have s8 := hb8.size
  try simp at s8
  replace d20 := bkeep3 hb8 d20
  replace d21 := bkeep3 hb8 d21
  replace d30 := bkeep3 hb8 d30
  replace d31 := bkeep3 hb8 d31
  replace d60 := bkeep3 hb8 d60
  replace d61 := bkeep3 hb8 d61
  replace d70 := bkeep3 hb8 d70
  replace d71 := bkeep3 hb8 d71
  have d80 : w8.cell? ⟨w7.heap.size, 0, none⟩ = some (.complex .f64 e3 f3) := bkeep2 hb8 (by simp [go_sem])
  have d81 : w8.cell? ⟨w7.heap.size, 1, none⟩ = some (.float .f64 i3) := bkeep2 hb8 (by simp [go_sem])
  have l0 : w1.heap.size < w8.heap.size := cell_lt d20
  have l1 : w2.heap.size < w8.heap.size := cell_lt d30
  have l2 : w5.heap.size < w8.heap.size := cell_lt d60
  have l3 : w6.heap.size < w8.heap.size := cell_lt d70
  have l4 : w7.heap.size < w8.heap.size := cell_lt d80
  go_wp2_with fail
  go_at_call 66
  refine (jd _).mono ?_
  rintro e w9 ⟨rfl, hb9⟩
  have s9 := hb9.size
  try simp at s9
  replace d20 := bkeep2 hb9 d20
  replace d21 := bkeep2 hb9 d21
  replace d30 := bkeep2 hb9 d30
  replace d31 := bkeep2 hb9 d31
  replace d60 := bkeep2 hb9 d60
  replace d61 := bkeep2 hb9 d61
  replace d70 := bkeep2 hb9 d70
  replace d71 := bkeep2 hb9 d71
  replace d80 := bkeep2 hb9 d80
  replace d81 := bkeep2 hb9 d81
  have l0 : w1.heap.size < w9.heap.size := cell_lt d20
  have l1 : w2.heap.size < w9.heap.size := cell_lt d30
  have l2 : w5.heap.size < w9.heap.size := cell_lt d60
  have l3 : w6.heap.size < w9.heap.size := cell_lt d70
  have l4 : w7.heap.size < w9.heap.size := cell_lt d80
  go_wp2_with fail
  go_at_call 66
  refine (jm _).mono ?_
  rintro e w10 ⟨rfl, hb10⟩
  have s10 := hb10.size
  try simp at s10
  replace d20 := bkeep2 hb10 d20
  replace d21 := bkeep2 hb10 d21
  replace d30 := bkeep2 hb10 d30
  replace d31 := bkeep2 hb10 d31
  replace d60 := bkeep2 hb10 d60
  replace d61 := bkeep2 hb10 d61
  replace d70 := bkeep2 hb10 d70
  replace d71 := bkeep2 hb10 d71
  replace d80 := bkeep2 hb10 d80
  replace d81 := bkeep2 hb10 d81
  have l0 : w1.heap.size < w10.heap.size := cell_lt d20
  have l1 : w2.heap.size < w10.heap.size := cell_lt d30
  have l2 : w5.heap.size < w10.heap.size := cell_lt d60
  have l3 : w6.heap.size < w10.heap.size := cell_lt d70
  have l4 : w7.heap.size < w10.heap.size := cell_lt d80
  go_wp2_with fail
  go_at_call 70
  refine (ms _).mono ?_
  rintro e w11 ⟨rfl, hb11⟩
  have s11 := hb11.size
  try simp at s11
  replace d20 := bkeep2 hb11 d20
  replace d21 := bkeep2 hb11 d21
  replace d30 := bkeep2 hb11 d30
  replace d31 := bkeep2 hb11 d31
  replace d60 := bkeep2 hb11 d60
  replace d61 := bkeep2 hb11 d61
  replace d70 := bkeep2 hb11 d70
  replace d71 := bkeep2 hb11 d71
  replace d80 := bkeep2 hb11 d80
  replace d81 := bkeep2 hb11 d81
  have l0 : w1.heap.size < w11.heap.size := cell_lt d20
  have l1 : w2.heap.size < w11.heap.size := cell_lt d30
  have l2 : w5.heap.size < w11.heap.size := cell_lt d60
  have l3 : w6.heap.size < w11.heap.size := cell_lt d70
  have l4 : w7.heap.size < w11.heap.size := cell_lt d80
  go_wp2_with fail
  go_at_call 70
  refine (md _).mono ?_
  rintro e w12 ⟨rfl, hb12⟩
  have s12 := hb12.size
  try simp at s12
  replace d20 := bkeep2 hb12 d20
  replace d21 := bkeep2 hb12 d21
  replace d30 := bkeep2 hb12 d30
  replace d31 := bkeep2 hb12 d31
  replace d60 := bkeep2 hb12 d60
  replace d61 := bkeep2 hb12 d61
  replace d70 := bkeep2 hb12 d70
  replace d71 := bkeep2 hb12 d71
  replace d80 := bkeep2 hb12 d80
  replace d81 := bkeep2 hb12 d81
  have l0 : w1.heap.size < w12.heap.size := cell_lt d20
  have l1 : w2.heap.size < w12.heap.size := cell_lt d30
  have l2 : w5.heap.size < w12.heap.size := cell_lt d60
  have l3 : w6.heap.size < w12.heap.size := cell_lt d70
  have l4 : w7.heap.size < w12.heap.size := cell_lt d80
  go_wp2_with fail
  go_at_call 70
  refine (mm _).mono ?_
  rintro e w13 ⟨rfl, hb13⟩
  have s13 := hb13.size
  try simp at s13
  replace d20 := bkeep2 hb13 d20
  replace d21 := bkeep2 hb13 d21
  replace d30 := bkeep2 hb13 d30
  replace d31 := bkeep2 hb13 d31
  replace d60 := bkeep2 hb13 d60
  replace d61 := bkeep2 hb13 d61
  replace d70 := bkeep2 hb13 d70
  replace d71 := bkeep2 hb13 d71
  replace d80 := bkeep2 hb13 d80
  replace d81 := bkeep2 hb13 d81
  have l0 : w1.heap.size < w13.heap.size := cell_lt d20
  have l1 : w2.heap.size < w13.heap.size := cell_lt d30
  have l2 : w5.heap.size < w13.heap.size := cell_lt d60
  have l3 : w6.heap.size < w13.heap.size := cell_lt d70
  have l4 : w7.heap.size < w13.heap.size := cell_lt d80
  go_wp2_with fail
  go_ret
  refine ⟨rfl, ?_⟩
  repeat (with_reducible first | exact Below.refl _ _ | assumption | refine Below.drew ?_ | refine bl_drewN ?_ _ | refine Below.setCell ?_ (by first | omega | (simp; done) | (simp; omega)) _ | refine Below.alloc ?_ (by first | omega | (simp; done) | (simp; omega)) _ | refine bl_next ?_ (by assumption) | refine bl_trans ?_ (by assumption) (by first | omega | (simp; done) | (simp; omega)))

end Go.Proofs.Ytacnclofbnafiaa
