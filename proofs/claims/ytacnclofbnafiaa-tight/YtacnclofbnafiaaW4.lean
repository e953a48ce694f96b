import Derived.Test.YtacnclofbnafiaaW3
namespace Go.Proofs.Ytacnclofbnafiaa
open Go.RowKit Fl

theorem isNaN_of (x : Nat) (h : Ieee.double.order x x = some .eq) (w : World) :
    Calls Try.prog 92 #[.float .f64 x] w fun e w' => e = .returned (.bool false) ∧ w' = w := by
  go_enter Try.func92, Try.ntmps92
  go_wp2
  go_ret
  exact ⟨rfl, rfl⟩
theorem next_same (x y : Nat) (hx : Ieee.double.order x x = some .eq) (hy : Ieee.double.order y y = some .eq) (hxy : Ieee.double.order x y = some .eq) (w : World) :
    Calls Try.prog 30 #[.float .f64 x, .float .f64 y] w fun e w' => e = .returned (.float .f64 x) ∧ w' = w := by
  go_enter Try.func30, Try.ntmps30
  go_wp2_with (first
    | (go_at_call 92; with_reducible refine (isNaN_of _ hx _).mono ?_; rintro e w' ⟨rfl, rfl⟩)
    | (go_at_call 92; with_reducible refine (isNaN_of _ hy _).mono ?_; rintro e w' ⟨rfl, rfl⟩))
  go_ret
  exact ⟨rfl, rfl⟩
theorem next_zero (x y : Nat) (t : Bool) (q : Nat) (hq : q < 9223372036854775808) (hW : y = W t q) (hx : Ieee.double.order x x = some .eq) (hy : Ieee.double.order y y = some .eq) (hxy : (Ieee.double.order x y == some .eq) = false)
    (hx0 : Ieee.double.order x 0 = some .eq) (w : World) :
    Calls Try.prog 30 #[.float .f64 x, .float .f64 y] w fun e w' => e = .returned (.float .f64 (W t 1)) ∧ w' = w := by
  have hcs : ∀ w, Calls Try.prog 94 #[.float .f64 1, .float .f64 y] w fun e w' => e = .returned (.float .f64 (W t 1)) ∧ w' = w := by
    intro w; rw [hW]; exact copysign_any false t 1 q (by omega) hq w
  clear hW hq
  go_enter Try.func30, Try.ntmps30
  go_wp2_with (first
    | (go_at_call 92; with_reducible refine (isNaN_of _ hx _).mono ?_; rintro e w' ⟨rfl, rfl⟩)
    | (go_at_call 92; with_reducible refine (isNaN_of _ hy _).mono ?_; rintro e w' ⟨rfl, rfl⟩)
    | (go_at_call 94; refine (hcs _).mono ?_; rintro e w' ⟨rfl, rfl⟩))
  go_ret
  exact ⟨rfl, rfl⟩
/-- One more, one less, of a uint64. -/
def inc (x : Nat) : Nat := (IntKind.u64.wrap ((x : Int) + 1)).toNat
def dec (x : Nat) : Nat := (IntKind.u64.wrap ((x : Int) - 1)).toNat
theorem next_plus (x y : Nat) (o1 o2 : Ordering) (hx : Ieee.double.order x x = some .eq) (hy : Ieee.double.order y y = some .eq) (hxy : (Ieee.double.order x y == some .eq) = false)
    (hyx : Ieee.double.order y x = some o1) (hx0 : Ieee.double.order x 0 = some o2) (H : (o1 = .gt ∧ o2 = .gt) ∨ (o1 = .lt ∧ o2 = .lt)) (w : World) :
    Calls Try.prog 30 #[.float .f64 x, .float .f64 y] w fun e w' => e = .returned (.float .f64 (inc x)) ∧ w' = w := by
  rcases H with ⟨rfl, rfl⟩ | ⟨rfl, rfl⟩
  all_goals
    go_enter Try.func30, Try.ntmps30
    go_wp2_with (first
      | (go_at_call 92; with_reducible refine (isNaN_of _ hx _).mono ?_; rintro e w' ⟨rfl, rfl⟩)
      | (go_at_call 92; with_reducible refine (isNaN_of _ hy _).mono ?_; rintro e w' ⟨rfl, rfl⟩))
    go_ret
    exact ⟨rfl, rfl⟩
theorem next_minus (x y : Nat) (o1 o2 : Ordering) (hx : Ieee.double.order x x = some .eq) (hy : Ieee.double.order y y = some .eq) (hxy : (Ieee.double.order x y == some .eq) = false)
    (hyx : Ieee.double.order y x = some o1) (hx0 : Ieee.double.order x 0 = some o2) (H : (o1 = .gt ∧ o2 = .lt) ∨ (o1 = .lt ∧ o2 = .gt)) (w : World) :
    Calls Try.prog 30 #[.float .f64 x, .float .f64 y] w fun e w' => e = .returned (.float .f64 (dec x)) ∧ w' = w := by
  rcases H with ⟨rfl, rfl⟩ | ⟨rfl, rfl⟩
  all_goals
    go_enter Try.func30, Try.ntmps30
    go_wp2_with (first
      | (go_at_call 92; with_reducible refine (isNaN_of _ hx _).mono ?_; rintro e w' ⟨rfl, rfl⟩)
      | (go_at_call 92; with_reducible refine (isNaN_of _ hy _).mono ?_; rintro e w' ⟨rfl, rfl⟩))
    go_ret
    exact ⟨rfl, rfl⟩
def cmpI : Ordering → Int | .lt => -1 | .eq => 0 | .gt => 1
theorem cisNaN_of (x : Nat) (h : Ieee.double.order x x = some .eq) (w : World) :
    Calls Try.prog 183 #[.float .f64 x] w fun e w' => e = .returned (.bool false) ∧ w' = w := by
  go_enter Try.func183, Try.ntmps183
  go_wp2
  go_ret
  exact ⟨rfl, rfl⟩
theorem compare_any (x y : Nat) (o : Ordering) (hx : Ieee.double.order x x = some .eq) (hy : Ieee.double.order y y = some .eq) (hxy : Ieee.double.order x y = some o) (w : World) :
    Calls Try.prog 179 #[.float .f64 x, .float .f64 y] w fun e w' => e = .returned (.int .i64 (cmpI o)) ∧ w' = w := by
  cases o
  all_goals
    go_enter Try.func179, Try.ntmps179
    go_wp2_with (first
      | (go_at_call 183; with_reducible refine (cisNaN_of _ hx _).mono ?_; rintro e w' ⟨rfl, rfl⟩)
      | (go_at_call 183; with_reducible refine (cisNaN_of _ hy _).mono ?_; rintro e w' ⟨rfl, rfl⟩))
    go_ret
    exact ⟨rfl, rfl⟩
/-- Without -0. -/
def pw (s : Bool) (r : Nat) : Nat := if r = 0 then 0 else W s r
theorem plain_any (s : Bool) (r : Nat) (hr : r < 9223372036854775808) (w : World) :
    Calls Try.prog 165 #[.float .f64 (W s r)] w fun e w' => e = .returned (.float .f64 (pw s r)) ∧ w' = w := by
  have h := order_zero s r hr
  by_cases h0 : r = 0
  · have e : pw s r = 0 := by unfold pw; rw [if_pos h0]
    rw [decide_eq_true h0] at h
    rw [e]
    clear h0 e
    go_enter Try.func165, Try.ntmps165
    go_wp2
    go_ret
    exact ⟨rfl, rfl⟩
  · have e : pw s r = W s r := by unfold pw; rw [if_neg h0]
    rw [decide_eq_false h0] at h
    rw [e]
    clear h0 e
    go_enter Try.func165, Try.ntmps165
    go_wp2
    go_ret
    exact ⟨rfl, rfl⟩
theorem fma_run (x y z r : Nat) (h : Ieee.double.fma x y z = some r) (w : World) : (callFunc 167 #[.float .f64 x, .float .f64 y, .float .f64 z]).run Try.prog w = .ok (.value (.float .f64 r)) w := by
  rw [run_callFunc_extern Try.func167 (by kernel_rfl) (by kernel_rfl) (by kernel_rfl) (e := Extern.MathFMA.fma) (by kernel_rfl)]
  have h' : FloatKind.f64.format.fma x y z = some r := h
  have e : Extern.MathFMA.fma #[.float .f64 x, .float .f64 y, .float .f64 z] = (match FloatKind.f64.format.fma x y z with
      | some r => pure (.float .f64 r)
      | none => (choose (.nanBits .f64 (if Extern.MathFMA.isNaN x then (x, y) else if Extern.MathFMA.isNaN y then (y, z) else (z, z)).1 (if Extern.MathFMA.isNaN x then (x, y) else if Extern.MathFMA.isNaN y then (y, z) else (z, z)).2)) >>= fun c => pure (.float .f64 c)) := rfl
  rw [e, h']
  rfl
theorem sqrt_run (x r : Nat) (h : Ieee.double.sqrt x = some r) (w : World) : (callFunc 91 #[.float .f64 x]).run Try.prog w = .ok (.value (.float .f64 r)) w := by
  rw [run_callFunc_extern Try.func91 (by kernel_rfl) (by kernel_rfl) (by kernel_rfl) (e := Extern.MathSqrt.sqrt) (by kernel_rfl)]
  have h' : FloatKind.f64.format.sqrt x = some r := h
  have e : Extern.MathSqrt.sqrt #[.float .f64 x] = (match FloatKind.f64.format.sqrt x with
      | some r => pure (.float .f64 r)
      | none => choose (.nanBits .f64 x x) >>= fun c => pure (.float .f64 c)) := rfl
  rw [e, h']
  rfl
theorem Sqrt_any (x r : Nat) (h : Ieee.double.sqrt x = some r) (w : World) :
    Calls Try.prog 28 #[.float .f64 x] w fun e w' => e = .returned (.float .f64 r) ∧ w' = w := by
  have hs := sqrt_run x r h
  clear h
  go_enter Try.func28, Try.ntmps28
  go_wp2
  go_ret
  exact ⟨rfl, rfl⟩
end Go.Proofs.Ytacnclofbnafiaa
