import Derived.Test.YtcfjicfmcmbepabR6
namespace Go.Proofs.Ytcfjicfmcmbepab
open Go.RowKit Fl

theorem ne_nan (s : Bool) (r : Nat) (h : INF < r) (h' : r < 9223372036854775808) : (Ieee.double.order (W s r) (W s r) != some .eq) = true := by
  rw [order_nan_l s r _ h h']; rfl
theorem ne_num (s : Bool) (r : Nat) (h : r ≤ INF) : (Ieee.double.order (W s r) (W s r) != some .eq) = false := by
  rw [order_self s r h]; rfl
theorem ne_infs (s t : Bool) (r q : Nat) (hr : r = INF) (hq : q = INF) : (Ieee.double.order (W s r) (W t q) != some .eq) = (s != t) := by
  rw [hr, hq, order_inf_inf]; cases s <;> cases t <;> rfl

-- Mul
end Go.Proofs.Ytcfjicfmcmbepab
