import Derived.Test.YtacnclofbnafiabK9
import Derived.Test.YtacnclofbnafiabB1
import Derived.Test.YtacnclofbnafiabL1
namespace Go.Proofs.Ytacnclofbnafiab
open Go.RowKit Fl

theorem at_n {w : World} {v : Value} {f : Nat → Nat} (h : Lst w v f) (k : Nat) (n : Int) (hn : n = (k : Int)) (hk : k ≤ 100) :
    Calls Try.prog 23 #[v, .int .i64 n] w fun e w' => e = .returned (.float .f64 (f k)) ∧ w' = w := by
  subst hn
  exact at_any h k (by omega)
set_option maxHeartbeats 1000000 in
theorem box3_w (v : Value) (f : Nat → Nat)
    (w : World) (hl : Lst w v f) :
    Calls Try.prog 8 #[v, .int .i64 3] w fun e w' => e = .returned (.agg #[.float .f64 (f 3), .float .f64 (f 4), .float .f64 (f 5), .float .f64 (f 6)]) ∧ Below w.heap.size w w' := by
  go_enter Try.func8, Try.ntmps8
  go_wp2_with fail
  obtain ⟨w0, hw0⟩ : ∃ v, v = (w.alloc (.cells #[.float .f64 0, .float .f64 0, .float .f64 0, .float .f64 0] 32)) := ⟨_, rfl⟩
  rw [← hw0]
  have c00 : w0.cell? ⟨w.heap.size, 0, none⟩ = some (.float .f64 0) := by simp [hw0, go_sem]
  have fc00 : w0.frozen? ⟨w.heap.size, 0, none⟩ = false := by simp [hw0, go_sem]
  have c01 : w0.cell? ⟨w.heap.size, 1, none⟩ = some (.float .f64 0) := by simp [hw0, go_sem]
  have fc01 : w0.frozen? ⟨w.heap.size, 1, none⟩ = false := by simp [hw0, go_sem]
  have c02 : w0.cell? ⟨w.heap.size, 2, none⟩ = some (.float .f64 0) := by simp [hw0, go_sem]
  have fc02 : w0.frozen? ⟨w.heap.size, 2, none⟩ = false := by simp [hw0, go_sem]
  have c03 : w0.cell? ⟨w.heap.size, 3, none⟩ = some (.float .f64 0) := by simp [hw0, go_sem]
  have fc03 : w0.frozen? ⟨w.heap.size, 3, none⟩ = false := by simp [hw0, go_sem]
  have s0 : w.heap.size + 1 ≤ w0.heap.size := by simp [hw0]
  have hB0 : Below w.heap.size w w0 := by
    rw [hw0]
    repeat (with_reducible first | exact Below.refl _ _ | assumption | refine Below.drew ?_ | refine bl_drewN ?_ _ | refine Below.setCell ?_ (by first | omega | (simp; done) | (simp; omega)) _ | refine Below.alloc ?_ (by first | omega | (simp; done) | (simp; omega)) _ | refine bl_next ?_ (by assumption) | refine bl_trans ?_ (by assumption) (by first | omega | (simp; done) | (simp; omega)))
  clear hw0
  replace hl := hl.below hB0
  go_at_call 23
  refine (at_n hl 3 3 rfl (by decide)).mono ?_
  rintro e w' ⟨rfl, rfl⟩
  go_wp2_with fail
  go_at_call 23
  refine (at_n hl 4 4 rfl (by decide)).mono ?_
  rintro e w' ⟨rfl, rfl⟩
  go_wp2_with fail
  go_at_call 23
  refine (at_n hl 5 5 rfl (by decide)).mono ?_
  rintro e w' ⟨rfl, rfl⟩
  go_wp2_with fail
  go_at_call 23
  refine (at_n hl 6 6 rfl (by decide)).mono ?_
  rintro e w' ⟨rfl, rfl⟩
  go_wp2_with fail
  go_at_call 26
  refine (interval_w _ _ _).mono ?_
  rintro e w1 ⟨rfl, hb1⟩
  have s1 := hb1.size
  try simp at s1
  replace fc00 := bfroz2 hb1 c00 fc00
  replace fc01 := bfroz2 hb1 c01 fc01
  replace fc02 := bfroz2 hb1 c02 fc02
  replace fc03 := bfroz2 hb1 c03 fc03
  replace c00 := bkeep2 hb1 c00
  replace c01 := bkeep2 hb1 c01
  replace c02 := bkeep2 hb1 c02
  replace c03 := bkeep2 hb1 c03
  have l0 : w.heap.size < w1.heap.size := cell_lt c00
  go_wp2_with fail
  go_at_call 26
  refine (interval_w _ _ _).mono ?_
  rintro e w2 ⟨rfl, hb2⟩
  have s2 := hb2.size
  try simp at s2
  replace fc00 := bfroz2 hb2 c00 fc00
  replace fc01 := bfroz2 hb2 c01 fc01
  replace fc02 := bfroz2 hb2 c02 fc02
  replace fc03 := bfroz2 hb2 c03 fc03
  replace c00 := bkeep2 hb2 c00
  replace c01 := bkeep2 hb2 c01
  replace c02 := bkeep2 hb2 c02
  replace c03 := bkeep2 hb2 c03
  have l0 : w.heap.size < w2.heap.size := cell_lt c00
  go_wp2_with fail
  refine bodyPost_ret (v := .agg #[.float .f64 (f 3), .float .f64 (f 4), .float .f64 (f 5), .float .f64 (f 6)]) (by simp [results, Try.results8, go_sem, *]) rfl ⟨rfl, ?_⟩
  repeat (with_reducible first | exact Below.refl _ _ | assumption | refine Below.drew ?_ | refine bl_drewN ?_ _ | refine Below.setCell ?_ (by first | omega | (simp; done) | (simp; omega)) _ | refine Below.alloc ?_ (by first | omega | (simp; done) | (simp; omega)) _ | refine bl_next ?_ (by assumption) | refine bl_trans ?_ (by assumption) (by first | omega | (simp; done) | (simp; omega)))

end Go.Proofs.Ytacnclofbnafiab
