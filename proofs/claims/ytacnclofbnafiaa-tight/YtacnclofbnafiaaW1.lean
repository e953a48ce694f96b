import Derived.Test.YtacnclofbnafiaaChecked
import Derived.WalkKit
import Derived.Laws.FloatArith
import Derived.KernelRfl
import Derived.Test.YtacnclofbnafiaaFA
namespace Go.Proofs.Ytacnclofbnafiaa
open Go.RowKit Fl

@[go_sem] theorem bits_run (b : Nat) (w : World) : (callFunc 90 #[.float .f64 b]).run Try.prog w = .ok (.value (.int .u64 b)) w := by
  rw [run_callFunc_extern Try.func90 (by kernel_rfl) (by kernel_rfl) (by kernel_rfl) (e := Extern.MathFloatBits.float64bits) (by kernel_rfl)]
  rfl
@[go_sem] theorem frombits_run (n : Int) (w : World) : (callFunc 95 #[.int .u64 n]).run Try.prog w = .ok (.value (.float .f64 n.toNat)) w := by
  rw [run_callFunc_extern Try.func95 (by kernel_rfl) (by kernel_rfl) (by kernel_rfl) (e := Extern.MathFloatBits.float64frombits) (by kernel_rfl)]
  rfl
theorem ret_float {a b : Nat} (h : a = b) : Ending.returned (.float .f64 a) = .returned (.float .f64 b) := by rw [h]
theorem ret_bool {a b : Bool} (h : a = b) : Ending.returned (.bool a) = .returned (.bool b) := by rw [h]
theorem ret_int {k : IntKind} {a b : Int} (h : a = b) : Ending.returned (.int k a) = .returned (.int k b) := by rw [h]
@[go_sem] theorem fmt64 : FloatKind.f64.format = Ieee.double := rfl

theorem abs_any (s : Bool) (r : Nat) (hr : r < 9223372036854775808) (w : World) :
    Calls Try.prog 53 #[.float .f64 (W s r)] w fun e w' => e = .returned (.float .f64 (W false r)) ∧ w' = w := by
  have hb := abs_bits s r hr
  go_enter Try.func53, Try.ntmps53
  go_wp2
  go_ret
  exact ⟨ret_float (W_false r).symm, rfl⟩
theorem isNaN_no (s : Bool) (r : Nat) (hr : r ≤ INF) (w : World) :
    Calls Try.prog 92 #[.float .f64 (W s r)] w fun e w' => e = .returned (.bool false) ∧ w' = w := by
  have h := order_self s r hr
  go_enter Try.func92, Try.ntmps92
  go_wp2
  go_ret
  exact ⟨rfl, rfl⟩
theorem isNaN_yes (s : Bool) (r : Nat) (hr : INF < r) (hr' : r < 9223372036854775808) (w : World) :
    Calls Try.prog 92 #[.float .f64 (W s r)] w fun e w' => e = .returned (.bool true) ∧ w' = w := by
  have h := order_nan_l s r (W s r) hr hr'
  go_enter Try.func92, Try.ntmps92
  go_wp2
  go_ret
  exact ⟨rfl, rfl⟩
theorem isInf0 (s : Bool) (r : Nat) (hr : r < 9223372036854775808) (w : World) :
    Calls Try.prog 29 #[.float .f64 (W s r), .int .i64 0] w fun e w' => e = .returned (.bool (decide (r = INF))) ∧ w' = w := by
  have h := order_max r hr
  go_enter Try.func29, Try.ntmps29
  go_wp2_with (go_at_call 53; refine (abs_any _ _ hr _).mono ?_; rintro e w' ⟨rfl, rfl⟩)
  go_ret
  exact ⟨rfl, rfl⟩
theorem isInf1 (r : Nat) (hr : r < 9223372036854775808) (w : World) :
    Calls Try.prog 29 #[.float .f64 (W false r), .int .i64 1] w fun e w' => e = .returned (.bool (decide (r = INF))) ∧ w' = w := by
  have h := order_max r hr
  go_enter Try.func29, Try.ntmps29
  go_wp2
  go_ret
  exact ⟨rfl, rfl⟩
theorem inf_pos (w : World) :
    Calls Try.prog 31 #[.int .i64 1] w fun e w' => e = .returned (.float .f64 (W false INF)) ∧ w' = w := by
  go_enter Try.func31, Try.ntmps31
  go_wp2
  go_ret
  exact ⟨rfl, rfl⟩
theorem inf_neg (w : World) :
    Calls Try.prog 31 #[.int .i64 (-1)] w fun e w' => e = .returned (.float .f64 (W true INF)) ∧ w' = w := by
  go_enter Try.func31, Try.ntmps31
  go_wp2
  go_ret
  exact ⟨rfl, rfl⟩
theorem copysign_any (s t : Bool) (r q : Nat) (hr : r < 9223372036854775808) (hq : q < 9223372036854775808) (w : World) :
    Calls Try.prog 94 #[.float .f64 (W s r), .float .f64 (W t q)] w fun e w' => e = .returned (.float .f64 (W t r)) ∧ w' = w := by
  have h1 := abs_bits s r hr
  have h1' : bits .andNot .u64 (W s r : Int) 9223372036854775808 = (r : Int) := by
    have := u64_andNot_nat (W s r) 9223372036854775808 (W_lt s r hr) (by decide)
    rw [show ((9223372036854775808 : Nat) : Int) = 9223372036854775808 from rfl] at this
    rw [this] at h1 ⊢
    rw [Int.toNat_natCast] at h1
    rw [h1]
  clear h1
  have h2 := sign_bits t q hq
  have h3 := or_sign t r hr
  go_enter Try.func94, Try.ntmps94
  go_wp2
  go_ret
  exact ⟨ret_float (by simp), rfl⟩
end Go.Proofs.Ytacnclofbnafiaa
