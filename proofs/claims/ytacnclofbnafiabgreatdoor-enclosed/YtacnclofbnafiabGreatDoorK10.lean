import Derived.Test.YtacnclofbnafiabGreatDoorKB
namespace Go.Proofs.YtacnclofbnafiabGreatDoor
open Go.RowKit Fl

/-- 0 less NaN: which NaN, the tape says. -/
theorem sub_nan_fn (x y : Nat) (h : Ieee.double.sub x y = none) : ∃ o : World → Nat, (∀ w, NaNw (o w)) ∧ ∀ t' w, (binOp .sub t' (.float .f64 x) (.float .f64 y)).run Tryz.prog w = .ok (.float .f64 (o w)) w.drew := by
  refine ⟨fun w => w.tape w.drawn (.nanBits .f64 x y) % 2 * 2 ^ 63 + 0x7ff0000000000000 + 1 + (w.tape w.drawn (.nanBits .f64 x y) / 2) % (2 ^ 52 - 1), fun w => ?_, fun t' w => ?_⟩
  · obtain ⟨s, r, h1, h2, h3⟩ := nan_cut (w.tape w.drawn (.nanBits .f64 x y))
    exact ⟨s, r, h3, h1, h2⟩
  · have h' : FloatKind.f64.format.sub x y = none := h
    simp [binOp, Op.floatArith, h', choose, Sem.run, Question.forced, Question.cut]
theorem sub_nan {y : Nat} (h : NaNw y) : Ieee.double.sub 0 y = none := by
  obtain ⟨s, r, rfl, h1, h2⟩ := h
  unfold Ieee.Format.sub
  rw [read_nan s r h1 h2]
  cases Ieee.double.read 0 <;> rfl
/-- A Neg that has a NaN. -/
def NegNan (X1 X2 : Nat) : Prop := ∀ w, Calls Tryz.prog 134 #[.agg #[.float .f64 X1, .float .f64 X2]] w fun e w' => ∃ a b, e = .returned (.agg #[.float .f64 a, .float .f64 b]) ∧ Below w.heap.size w w' ∧ NoIv a b ∧ a < 18446744073709551616 ∧ b < 18446744073709551616
theorem no_l {a b : Nat} (h : NaNw a) : NoIv a b := fun _ _ g => h.no g.x
theorem no_r {a b : Nat} (h : NaNw b) : NoIv a b := fun _ _ g => h.no g.y

theorem neg_nan2 {X1 X2 : Nat} {k : Int} (h1 : Key X1 k) (h2 : NaNw X2) : NegNan X1 X2 := by
  intro w
  obtain ⟨f, fn, fr⟩ := sub_nan_fn 0 X2 (sub_nan h2)
  have kb := (Key.of_B (k := -k) (by have := h1.bd; omega) (by have := h1.bd; omega)).lt
  have a2 := fun t' w => run_float_arith (P := Tryz.prog) w .sub t' .f64 _ _ _ h1.minus
  generalize B (-k) = q at *
  clear h1 h2
  go_enter Tryz.func134, Tryz.ntmps134
  go_wp2_with fail
  refine bodyPost_ret (v := .agg #[.float .f64 (f ((w.alloc (.cells #[.float .f64 X1, .float .f64 X2] 37)).alloc (.cells #[.float .f64 0, .float .f64 0] 37))), .float .f64 q]) (by simp [results, Tryz.results134, go_sem, *]) rfl ⟨_, _, rfl, ?_, no_l (fn _), (fn _).lt, kb⟩
  repeat (first | exact Below.refl _ _ | assumption | refine Below.drew ?_ | refine bl_drewN ?_ _ | refine Below.setCell ?_ (by first | omega | (simp; done) | (simp; omega)) _ | refine Below.alloc ?_ (by first | omega | (simp; done) | (simp; omega)) _ | refine bl_next ?_ (by assumption) | refine bl_trans ?_ (by assumption) (by first | omega | (simp; done) | (simp; omega)))
theorem neg_nan1 {X1 X2 : Nat} {k : Int} (h1 : NaNw X1) (h2 : Key X2 k) : NegNan X1 X2 := by
  intro w
  obtain ⟨g, gn, gr⟩ := sub_nan_fn 0 X1 (sub_nan h1)
  have kb := (Key.of_B (k := -k) (by have := h2.bd; omega) (by have := h2.bd; omega)).lt
  have a2 := fun t' w => run_float_arith (P := Tryz.prog) w .sub t' .f64 _ _ _ h2.minus
  generalize B (-k) = q at *
  clear h1 h2
  go_enter Tryz.func134, Tryz.ntmps134
  go_wp2_with fail
  refine bodyPost_ret (v := .agg #[.float .f64 q, .float .f64 (g ((w.alloc (.cells #[.float .f64 X1, .float .f64 X2] 37)).alloc (.cells #[.float .f64 0, .float .f64 0] 37)))]) (by simp [results, Tryz.results134, go_sem, *]) rfl ⟨_, _, rfl, ?_, no_r (gn _), kb, (gn _).lt⟩
  repeat (first | exact Below.refl _ _ | assumption | refine Below.drew ?_ | refine bl_drewN ?_ _ | refine Below.setCell ?_ (by first | omega | (simp; done) | (simp; omega)) _ | refine Below.alloc ?_ (by first | omega | (simp; done) | (simp; omega)) _ | refine bl_next ?_ (by assumption) | refine bl_trans ?_ (by assumption) (by first | omega | (simp; done) | (simp; omega)))
theorem neg_nan12 {X1 X2 : Nat} (h1 : NaNw X1) (h2 : NaNw X2) : NegNan X1 X2 := by
  intro w
  obtain ⟨f, fn, fr⟩ := sub_nan_fn 0 X2 (sub_nan h2)
  obtain ⟨g, gn, gr⟩ := sub_nan_fn 0 X1 (sub_nan h1)
  clear h1 h2
  go_enter Tryz.func134, Tryz.ntmps134
  go_wp2_with fail
  refine bodyPost_ret (v := .agg #[.float .f64 (f ((w.alloc (.cells #[.float .f64 X1, .float .f64 X2] 37)).alloc (.cells #[.float .f64 0, .float .f64 0] 37))), .float .f64 (g ((w.alloc (.cells #[.float .f64 X1, .float .f64 X2] 37)).alloc (.cells #[.float .f64 0, .float .f64 0] 37)).drew)]) (by simp [results, Tryz.results134, go_sem, *]) rfl ⟨_, _, rfl, ?_, no_l (fn _), (fn _).lt, (gn _).lt⟩
  repeat (first | exact Below.refl _ _ | assumption | refine Below.drew ?_ | refine bl_drewN ?_ _ | refine Below.setCell ?_ (by first | omega | (simp; done) | (simp; omega)) _ | refine Below.alloc ?_ (by first | omega | (simp; done) | (simp; omega)) _ | refine bl_next ?_ (by assumption) | refine bl_trans ?_ (by assumption) (by first | omega | (simp; done) | (simp; omega)))
theorem sub_nan_w (X1 X2 Y1 Y2 c d : Nat) (n : NegNan Y1 Y2)
    (s : ∀ a b, NoIv a b → a < 18446744073709551616 → b < 18446744073709551616 → ∀ w, Calls Tryz.prog 118 #[.agg #[.float .f64 X1, .float .f64 X2], .agg #[.float .f64 a, .float .f64 b]] w fun e w' => e = .returned (.agg #[.float .f64 c, .float .f64 d]) ∧ Below w.heap.size w w') (w : World) :
    Calls Tryz.prog 119 #[.agg #[.float .f64 X1, .float .f64 X2], .agg #[.float .f64 Y1, .float .f64 Y2]] w fun e w' => e = .returned (.agg #[.float .f64 c, .float .f64 d]) ∧ Below w.heap.size w w' := by
  unfold NegNan at n
  go_enter Tryz.func119, Tryz.ntmps119
  go_wp2_with fail
  have c0_0_0 : (((w.alloc (.cells #[.float .f64 X1, .float .f64 X2] 37)).alloc (.cells #[.float .f64 Y1, .float .f64 Y2] 37)).alloc (.cells #[.float .f64 0, .float .f64 0] 37)).cell? ⟨w.heap.size, 0, none⟩ = some (.float .f64 X1) := by simp [go_sem]
  have c0_1_1 : (((w.alloc (.cells #[.float .f64 X1, .float .f64 X2] 37)).alloc (.cells #[.float .f64 Y1, .float .f64 Y2] 37)).alloc (.cells #[.float .f64 0, .float .f64 0] 37)).cell? ⟨w.heap.size, 1, none⟩ = some (.float .f64 X2) := by simp [go_sem]
  have c0_2_0 : (((w.alloc (.cells #[.float .f64 X1, .float .f64 X2] 37)).alloc (.cells #[.float .f64 Y1, .float .f64 Y2] 37)).alloc (.cells #[.float .f64 0, .float .f64 0] 37)).cell? ⟨w.heap.size + 1, 0, none⟩ = some (.float .f64 Y1) := by simp [go_sem]
  have c0_3_1 : (((w.alloc (.cells #[.float .f64 X1, .float .f64 X2] 37)).alloc (.cells #[.float .f64 Y1, .float .f64 Y2] 37)).alloc (.cells #[.float .f64 0, .float .f64 0] 37)).cell? ⟨w.heap.size + 1, 1, none⟩ = some (.float .f64 Y2) := by simp [go_sem]
  have c0_4_0 : (((w.alloc (.cells #[.float .f64 X1, .float .f64 X2] 37)).alloc (.cells #[.float .f64 Y1, .float .f64 Y2] 37)).alloc (.cells #[.float .f64 0, .float .f64 0] 37)).cell? ⟨w.heap.size + 1 + 1, 0, none⟩ = some (.float .f64 0) := by simp [go_sem]
  have f0_4_0 : (((w.alloc (.cells #[.float .f64 X1, .float .f64 X2] 37)).alloc (.cells #[.float .f64 Y1, .float .f64 Y2] 37)).alloc (.cells #[.float .f64 0, .float .f64 0] 37)).frozen? ⟨w.heap.size + 1 + 1, 0, none⟩ = false := by simp [go_sem]
  have c0_5_1 : (((w.alloc (.cells #[.float .f64 X1, .float .f64 X2] 37)).alloc (.cells #[.float .f64 Y1, .float .f64 Y2] 37)).alloc (.cells #[.float .f64 0, .float .f64 0] 37)).cell? ⟨w.heap.size + 1 + 1, 1, none⟩ = some (.float .f64 0) := by simp [go_sem]
  have f0_5_1 : (((w.alloc (.cells #[.float .f64 X1, .float .f64 X2] 37)).alloc (.cells #[.float .f64 Y1, .float .f64 Y2] 37)).alloc (.cells #[.float .f64 0, .float .f64 0] 37)).frozen? ⟨w.heap.size + 1 + 1, 1, none⟩ = false := by simp [go_sem]
  have s0 : w.heap.size + 1 + 1 + 1 ≤ (((w.alloc (.cells #[.float .f64 X1, .float .f64 X2] 37)).alloc (.cells #[.float .f64 Y1, .float .f64 Y2] 37)).alloc (.cells #[.float .f64 0, .float .f64 0] 37)).heap.size := by simp
  have hB0 : Below w.heap.size w (((w.alloc (.cells #[.float .f64 X1, .float .f64 X2] 37)).alloc (.cells #[.float .f64 Y1, .float .f64 Y2] 37)).alloc (.cells #[.float .f64 0, .float .f64 0] 37)) := by
    repeat (first | exact Below.refl _ _ | assumption | refine Below.drew ?_ | refine bl_drewN ?_ _ | refine Below.setCell ?_ (by first | omega | (simp; done) | (simp; omega)) _ | refine Below.alloc ?_ (by first | omega | (simp; done) | (simp; omega)) _ | refine bl_next ?_ (by assumption) | refine bl_trans ?_ (by assumption) (by first | omega | (simp; done) | (simp; omega)))
  generalize (((w.alloc (.cells #[.float .f64 X1, .float .f64 X2] 37)).alloc (.cells #[.float .f64 Y1, .float .f64 Y2] 37)).alloc (.cells #[.float .f64 0, .float .f64 0] 37)) = w0 at *
  go_region_held3 (fun w' => w'.cell? ⟨w.heap.size, 0, none⟩ = some (.float .f64 X1) ∧ w'.cell? ⟨w.heap.size, 1, none⟩ = some (.float .f64 X2) ∧ w'.cell? ⟨w.heap.size + 1, 0, none⟩ = some (.float .f64 Y1) ∧ w'.cell? ⟨w.heap.size + 1, 1, none⟩ = some (.float .f64 Y2)) (((try dsimp only); (repeat' apply And.intro) <;> first | go_keep | exact bkeep2 hb (by simp [*]) | (rw [set_other (by first | omega | (simp; done) | (simp; omega)), set_other (by first | omega | (simp; done) | (simp; omega))]; simp [*]; done))) (first | (go_at_call 134; with_reducible refine (n _).mono ?_; rintro e w' ⟨a, b, rfl, hb, z1, z2, z3⟩; have s := s a b z1 z2 z3; clear z1 z2 z3; have : w'.cell? ⟨w.heap.size + 1 + 1, 0, none⟩ = some (.float .f64 0) := bkeep2 hb (by simp [*]); have : w'.frozen? ⟨w.heap.size + 1 + 1, 0, none⟩ = false := bfroz2 hb (by simp [*]; rfl) (by simp [*]); have : w'.cell? ⟨w.heap.size + 1 + 1, 1, none⟩ = some (.float .f64 0) := bkeep2 hb (by simp [*]); have : w'.frozen? ⟨w.heap.size + 1 + 1, 1, none⟩ = false := bfroz2 hb (by simp [*]; rfl) (by simp [*])) | (go_at_call 118; with_reducible refine (s _).mono ?_; rintro e w' ⟨rfl, hb⟩; have : w'.cell? ⟨w.heap.size + 1 + 1, 0, none⟩ = some (.float .f64 0) := bkeep2 hb (by simp [*]); have : w'.frozen? ⟨w.heap.size + 1 + 1, 0, none⟩ = false := bfroz2 hb (by simp [*]; rfl) (by simp [*]); have : w'.cell? ⟨w.heap.size + 1 + 1, 1, none⟩ = some (.float .f64 0) := bkeep2 hb (by simp [*]); have : w'.frozen? ⟨w.heap.size + 1 + 1, 1, none⟩ = false := bfroz2 hb (by simp [*]; rfl) (by simp [*])))
  all_goals (go_wp2_with fail; refine bodyPost_ret (v := .agg #[.float .f64 c, .float .f64 d]) (by simp [results, Tryz.results119, go_sem, *]) rfl ⟨rfl, ?_⟩; repeat (first | exact Below.refl _ _ | assumption | refine Below.drew ?_ | refine bl_drewN ?_ _ | refine Below.setCell ?_ (by first | omega | (simp; done) | (simp; omega)) _ | refine Below.alloc ?_ (by first | omega | (simp; done) | (simp; omega)) _ | refine bl_next ?_ (by assumption) | refine bl_trans ?_ (by assumption) (by first | omega | (simp; done) | (simp; omega))))

end Go.Proofs.YtacnclofbnafiabGreatDoor
