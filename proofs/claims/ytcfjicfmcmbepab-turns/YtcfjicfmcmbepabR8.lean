import Derived.Test.YtcfjicfmcmbepabR7
namespace Go.Proofs.Ytcfjicfmcmbepab
open Go.RowKit Fl

theorem Side_over' (s t u : Bool) (r q z : Nat) (hr : r < INF) (hq : q < INF) (hq0 : 0 < q) (hz : z < INF) (w : World) :
    Calls Try.prog 34 #[.int .i64 2, .float .f64 (W s r), .float .f64 (W t q), .float .f64 (W u z)] w
      fun e w' => e = .returned (.int .i64 (Eo t (V s r * (U : Int)) (V t q) (V u z)).sign) ∧ Below w.heap.size w w' := by
  refine (Side_over s t u r q z hr hq hq0 hz w).mono ?_
  rintro e w' ⟨rfl, hb⟩
  refine ⟨ret_int ?_, hb⟩
  unfold Eo
  cases t
  · rfl
  · simp only [if_true]; rw [Int.sign_neg]
-- Sqrt
theorem Side_root' (s u : Bool) (r z : Nat) (hr : r < INF) (hz : z < INF) (w : World) :
    Calls Try.prog 34 #[.int .i64 3, .float .f64 (W s r), .float .f64 0, .float .f64 (W u z)] w
      fun e w' => e = .returned (.int .i64 (Er (V s r * (U : Int)) (V u z)).sign) ∧ Below w.heap.size w w' := by
  by_cases h : u = true ∧ 0 < z
  · obtain ⟨rfl, h0⟩ := h
    have e : Er (V s r * (U : Int)) (V true z) = 1 := by unfold Er; rw [if_pos (V_neg h0)]
    rw [e]
    exact Side_root_neg z 0 (W s r) h0 hz w
  · have hv : ¬ V u z < 0 := by
      cases u
      · unfold V; simp
      · have : z = 0 := by
          rcases Nat.eq_zero_or_pos z with g | g
          · exact g
          · exact absurd ⟨rfl, g⟩ h
        rw [this, V_zero]; omega
    have e : Er (V s r * (U : Int)) (V u z) = V s r * (U : Int) - V u z * V u z := by unfold Er; rw [if_neg hv]
    rw [e]
    refine Side_root s u r z 0 hr hz (fun hu => ?_) w
    rcases Nat.eq_zero_or_pos z with g | g
    · exact g
    · exact absurd ⟨hu, g⟩ h
theorem same_any (x : Nat) (hx : Ieee.double.order x x = some .eq) (w : World) :
    Calls Try.prog 29 #[.float .f64 x, .float .f64 x] w fun e w' => e = .returned (.bool true) ∧ w' = w := by
  have h : (Ieee.double.order x x == some .eq) = true := by rw [hx]; rfl
  clear hx
  go_enter Try.func29, Try.ntmps29
  go_wp2
  go_ret
  exact ⟨rfl, rfl⟩
end Go.Proofs.Ytcfjicfmcmbepab
