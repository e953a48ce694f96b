import Derived.Test.YtcfjicfmcmbepabW7
namespace Go.Proofs.Ytcfjicfmcmbepab
open Go.RowKit Fl

/-- What Div answers. -/
structure DivSpec (s : Bool) (r : Nat) (t : Bool) (q D P : Nat) : Prop where
  all : INF < r ∨ INF < q ∨ q = 0 ∨ (r = INF ∧ q = INF) → D = W true INF ∧ P = W false INF
  inf_r : r < INF → q = INF → D = 0 ∧ P = 0
  inf_l : r = INF → 0 < q → q < INF → D = W (s ^^ t) INF ∧ P = W (s ^^ t) INF
  num : 0 < q → r < INF → q < INF → ∃ lo hi, LoHi (Rt (M r * U) (M q)) lo hi ∧ D = dnW (s ^^ t) lo hi ∧ P = upW (s ^^ t) lo hi

theorem order_00 : Ieee.double.order 0 0 = some .eq := by have := order_self false 0 (Nat.zero_le _); rwa [W_zero] at this
/-- BOUNDS of 0. -/
theorem bounds_zero (s u : Bool) (n : Int) (C : Nat → Int) (hn1 : -5000 ≤ n) (hn2 : n ≤ 5000) (hC : Anti C) (h0 : C 0 = 0) :
    ∃ lo hi, LoHi C lo hi ∧ ∀ w, Calls Try.prog 75 #[.agg #[.float .f64 (W s 0), .float .f64 (W u 0), .int .i64 n]] w
      fun e w' => e = .returned (.tuple #[.float .f64 (dnW s lo hi), .float .f64 (upW s lo hi)]) ∧ Below w.heap.size w w' := by
  have o1 := order_self s 0 (Nat.zero_le _)
  have hsd := side_eq (W s 0) (W u 0) (W s 0) (W s 0) n .eq hn1 hn2 (Ldexp_zero s (-n)) o1 o1 o1 (order_self u 0 (Nat.zero_le _)) (order_zero_zero u) order_00
  have hF : Faith C 0 := by
    refine ⟨Nat.zero_le _, fun k _ => ⟨fun h => ?_, fun _ => Nat.zero_le _⟩⟩
    rcases Nat.eq_zero_or_pos k with e | e
    · omega
    · have := hC.neg (M_pos e) (by omega : C 0 ≤ 0); omega
  refine bounds_near s (W s 0) (W u 0) 0 n _ C (Ldexp_zero s n) hsd hF (by omega) 0 (by cases s <;> rfl) (fun h => by have := INF_pos; omega) (fun _ h => by omega) (fun _ h => by omega) (fun _ _ => by rw [M_zero]; exact h0)
end Go.Proofs.Ytcfjicfmcmbepab
