import Derived.Test.YtacnclofbnafiabGreatDoorWA
import Derived.Test.YtacnclofbnafiabGreatDoorCA
namespace Go.Proofs.YtacnclofbnafiabGreatDoor
open Go.RowKit Fl

theorem W_word (s : Bool) (r : Nat) (h : r < 9223372036854775808) : W s r < 18446744073709551616 := by unfold W; cases s <;> simp <;> omega
theorem drw1 (w : World) : w.drewN 1 = w.drew := rfl
/-- Go's own +, * and /, of any words: some word. -/
theorem run_any (op : BinOp) (hop : op = .add ∨ op = .mul ∨ op = .quo ∨ op = .sub) (x y : Nat) : ∃ (o : World → Nat) (n : Nat),
    (∀ t' w, (binOp op t' (.float .f64 x) (.float .f64 y)).run Tryz.prog w = .ok (.float .f64 (o w)) (w.drewN n)) ∧ (∀ w, o w < 18446744073709551616) ∧ ∀ w, floatBits op .f64 x y = some (o w) ∨ (floatBits op .f64 x y = none ∧ NaNw (o w)) := by
  cases h : floatBits op .f64 x y with
  | some r => exact ⟨fun _ => r, 0, fun t' w => run_float_arith w op t' .f64 x y r h, fun _ => by simpa [Lit.wf] using floatBits_wf h, fun w => .inl rfl⟩
  | none =>
    have q : ∀ w : World, ∃ s r, INF < r ∧ r < 9223372036854775808 ∧ Question.cut (.nanBits .f64 x y) (w.tape w.drawn (.nanBits .f64 x y)) = W s r := fun w => by
      obtain ⟨s, r, h1, h2, h3⟩ := nan_cut (w.tape w.drawn (.nanBits .f64 x y))
      exact ⟨s, r, h1, h2, h3⟩
    refine ⟨fun w => Question.cut (.nanBits .f64 x y) (w.tape w.drawn (.nanBits .f64 x y)), 1, fun t' w => ?_, fun w => ?_, fun w => .inr ⟨rfl, ?_⟩⟩
    · rw [drw1]
      rcases hop with rfl | rfl | rfl | rfl <;> simp only [floatBits] at h <;> simp [binOp, Op.floatArith, h, choose, Sem.run, Question.forced, Question.cut]
    · obtain ⟨s, r, h1, h2, h3⟩ := q w
      show Question.cut _ _ < _
      rw [h3]
      exact W_word s r h2
    · obtain ⟨s, r, h1, h2, h3⟩ := q w
      exact ⟨s, r, h3, h1, h2⟩
theorem abs_word {x : Nat} (h : x < 18446744073709551616) : ∃ y, y < 18446744073709551616 ∧ ∀ w, Calls Tryz.prog 44 #[.float .f64 x] w fun e w' => e = .returned (.float .f64 y) ∧ w' = w := by
  obtain ⟨s, r, rfl, hr⟩ := W_cases x h
  exact ⟨_, W_word _ _ hr, abs_any s r hr⟩
theorem about_any (re im a b r : Nat) (ha : a < 18446744073709551616) (hb : b < 18446744073709551616) (hr : r < 18446744073709551616) (w : World) :
    Calls Tryz.prog 21 #[.float .f64 re, .float .f64 im, .float .f64 a, .float .f64 b, .float .f64 r] w fun e w' => (∃ x y z, e = .returned (.agg #[.complex .f64 x y, .float .f64 z]) ∧ x < 18446744073709551616 ∧ y < 18446744073709551616 ∧ z < 18446744073709551616) ∧ Below w.heap.size w w' := by
  obtain ⟨a1, _, ca⟩ := abs_word ha
  obtain ⟨b1, _, cb⟩ := abs_word hb
  obtain ⟨r1, _, cr⟩ := abs_word hr
  obtain ⟨o1, n1, h1, _⟩ := run_any .add (.inl rfl) a1 b1
  obtain ⟨o4, n4, h4, g4, _⟩ := run_any .add (.inl rfl) re a
  obtain ⟨o5, n5, h5, g5, _⟩ := run_any .add (.inl rfl) im b
  have G4 : Hid (∀ w, o4 w < 18446744073709551616) := g4
  have G5 : Hid (∀ w, o5 w < 18446744073709551616) := g5
  clear ha hb hr g4 g5
  go_enter Tryz.func21, Tryz.ntmps21
  go_wp2_with fail
  go_at_call 44
  refine (cr _).mono ?_
  rintro e w' ⟨rfl, rfl⟩
  go_wp2_with fail
  go_at_call 44
  refine (ca _).mono ?_
  rintro e w' ⟨rfl, rfl⟩
  go_wp2_with fail
  go_at_call 44
  refine (cb _).mono ?_
  rintro e w' ⟨rfl, rfl⟩
  go_wp2_with fail
  generalize o1 _ = v1
  obtain ⟨o2, n2, h2, _⟩ := run_any .mul (.inr (.inl rfl)) 4611686018427387904 v1
  rw [h2]
  go_wp2_with fail
  generalize o2 _ = v2
  obtain ⟨o3, n3, h3, g3, _⟩ := run_any .add (.inl rfl) r1 v2
  rw [h3]
  have G3 : Hid (∀ w, o3 w < 18446744073709551616) := g3
  clear g3
  go_wp2_with fail
  generalize hz : o3 _ = z
  generalize hx : o4 _ = x
  generalize hy : o5 _ = y
  have bz : z < 18446744073709551616 := hz ▸ G3.out _
  have bx : x < 18446744073709551616 := hx ▸ G4.out _
  have bY : y < 18446744073709551616 := hy ▸ G5.out _
  clear hz hx hy
  refine bodyPost_ret (v := .agg #[.complex .f64 x y, .float .f64 z]) (by simp [results, Tryz.results21, go_sem, *]) rfl ⟨⟨x, y, z, rfl, bx, bY, bz⟩, ?_⟩
  repeat (with_reducible first | exact Below.refl _ _ | assumption | refine Below.drew ?_ | refine bl_drewN ?_ _ | refine Below.setCell ?_ (by first | omega | (simp; done) | (simp; omega)) _ | refine Below.alloc ?_ (by first | omega | (simp; done) | (simp; omega)) _)
end Go.Proofs.YtacnclofbnafiabGreatDoor
