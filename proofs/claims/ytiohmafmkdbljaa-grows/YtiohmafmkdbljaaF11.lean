import Derived.Test.YtiohmafmkdbljaaF10
namespace Go.Proofs.Ytiohmafmkdbljaa.Fl
open Ieee

theorem write_inf (s : Bool) : double.write (.infinity s) = W s INF := by
  have h : double.write (.infinity s) = double.word s double.infRung := rfl
  have hi : double.infRung = INF := by rw [INF_eq]; decide
  rw [h, hi, word_W]
theorem mg_ne {q : Nat} (h : 0 < q) : mg q ≠ 0 := by
  intro h'
  have := M_pos h
  unfold M at this; rw [h'] at this; simp at this
theorem mul_inf_l (s t : Bool) (q : Nat) (h0 : 0 < q) (hq : q ≤ INF) : double.mul (W s INF) (W t q) = some (W (s ^^ t) INF) := by
  unfold Format.mul
  rw [read_inf]
  rcases Nat.lt_or_eq_of_le hq with h | h
  · rw [read_fin t q h]
    simp only [Datum.product, if_neg (mg_ne h0), Option.map_some, write_inf]
  · subst h
    rw [read_inf]
    simp only [Datum.product, Option.map_some, write_inf]
theorem mul_inf_r (s t : Bool) (q : Nat) (h0 : 0 < q) (hq : q ≤ INF) : double.mul (W t q) (W s INF) = some (W (t ^^ s) INF) := by
  unfold Format.mul
  rw [read_inf]
  rcases Nat.lt_or_eq_of_le hq with h | h
  · rw [read_fin t q h]
    simp only [Datum.product, if_neg (mg_ne h0), Option.map_some, write_inf, Bool.xor_comm]
  · subst h
    rw [read_inf]
    simp only [Datum.product, Option.map_some, write_inf]
theorem div_inf_l (s t : Bool) (q : Nat) (hq : q < INF) : double.div (W s INF) (W t q) = some (W (s ^^ t) INF) := by
  unfold Format.div
  rw [read_inf, read_fin t q hq]
  simp only [Datum.quotient, Option.map_some, write_inf]
theorem add_inf_l (s t : Bool) (q : Nat) (hq : q < INF) : double.add (W s INF) (W t q) = some (W s INF) := by
  unfold Format.add
  rw [read_inf, read_fin t q hq]
  simp only [Datum.sum, Option.map_some, write_inf]
theorem add_inf_r (s t : Bool) (q : Nat) (hq : q < INF) : double.add (W t q) (W s INF) = some (W s INF) := by
  unfold Format.add
  rw [read_inf, read_fin t q hq]
  simp only [Datum.sum, Option.map_some, write_inf]
theorem add_inf_inf (s : Bool) : double.add (W s INF) (W s INF) = some (W s INF) := by
  unfold Format.add
  rw [read_inf]
  simp only [Datum.sum, if_true, Option.map_some, write_inf]
theorem add_inf_not (s : Bool) : double.add (W s INF) (W (!s) INF) = none := by
  unfold Format.add
  rw [read_inf, read_inf]
  cases s <;> simp [Datum.sum]
theorem add_nan_l (s : Bool) (r y : Nat) (h : INF < r) (h' : r < 9223372036854775808) : double.add (W s r) y = none := by
  unfold Format.add
  rw [read_nan s r h h']; rfl
theorem add_nan_r (s : Bool) (r y : Nat) (h : INF < r) (h' : r < 9223372036854775808) : double.add y (W s r) = none := by
  unfold Format.add
  rw [read_nan s r h h']
  cases double.read y <;> rfl
theorem sub_inf_l (s t : Bool) (q : Nat) (hq : q < INF) : double.sub (W s INF) (W t q) = some (W s INF) := by
  unfold Format.sub
  rw [read_inf, read_fin t q hq]
  simp only [Datum.opposite, Datum.sum, Option.map_some, write_inf]
theorem sub_inf_r (s t : Bool) (q : Nat) (hq : q < INF) : double.sub (W t q) (W s INF) = some (W (!s) INF) := by
  unfold Format.sub
  rw [read_inf, read_fin t q hq]
  simp only [Datum.opposite, Datum.sum, Option.map_some, write_inf]
theorem order_gt_zero (s : Bool) (r : Nat) (h0 : 0 < r) (hr : r ≤ INF) : (double.order (W s r) 0 == some .lt) = s := by
  rw [order_zero_cmp s r h0 hr]; cases s <;> rfl
theorem sqrt_zero (s : Bool) : double.sqrt (W s 0) = some (W s 0) := by
  unfold Format.sqrt
  rw [read_fin s 0 INF_pos]
  have h : mg 0 = 0 := by unfold mg; simp
  simp only [Datum.root, h, if_true, Option.map_some, Format.write]
  obtain ⟨z, hz, hf⟩ := nearest_faith s 0 (pl 0)
  rw [hz, word_W]
  have : z = 0 := hf.exact (Nat.zero_le _) (by unfold Rt; rw [M_zero]; simp)
  rw [this]
/-- Twice a fraction. -/
theorem mul_two (F : Nat) (hF : 4503599627370496 ≤ F) (hI : F + 4503599627370496 < INF) : double.mul 4611686018427387904 (W false F) = some (W false (F + 4503599627370496)) := by
  obtain ⟨z, hz, hf⟩ := mul_fin false false 4611686018427387904 F (by rw [INF_eq]; omega) (by omega)
  rw [W_false 4611686018427387904] at hz
  have e1 : M 4611686018427387904 = 2 * U := by
    obtain ⟨e, he⟩ : ∃ e : Nat, e = 1023 := ⟨_, rfl⟩
    obtain ⟨e', he'⟩ : ∃ e' : Nat, e' = 1022 := ⟨_, rfl⟩
    rw [M_of_pow e _ (by omega), U_split 52 e' (by have := EE_eq; omega), p52, show e = e' + 1 by omega, Nat.pow_succ]
    omega
  have e2 : M (F + 4503599627370496) = 2 * M F := by
    rw [M_norm _ (by omega), M_norm F hF]
    rw [show (F + 4503599627370496) % 4503599627370496 = F % 4503599627370496 by omega, show (F + 4503599627370496) / 4503599627370496 - 1 = (F / 4503599627370496 - 1) + 1 by omega, Nat.pow_succ]
    rw [← Nat.mul_assoc, Nat.mul_comm _ 2]
  have : z = F + 4503599627370496 := hf.exact (Nat.le_of_lt hI) (by
    unfold Rt; rw [e1, e2, Nat.mul_right_comm]; omega)
  rw [hz, this]; simp
theorem order_top_no (s : Bool) (r q : Nat) (hq : q + 1 = INF) (hr : r < INF) : (double.order (W s r) (W false q) == some .gt) = false := by
  rw [order_fin s false r q hr (by omega)]
  have h1 : V s r ≤ V false q := by
    have h2 := M_le (show r ≤ q by omega)
    unfold V; cases s <;> simp <;> omega
  have hn : compare (V s r) (V false q) ≠ .gt := by intro h; rw [Int.compare_eq_gt] at h; omega
  simp [hn]
theorem order_max_no (s : Bool) (r : Nat) (hr : r < INF) : (double.order (W s r) 9218868437227405311 == some .gt) = false := by
  have := order_top_no s r 9218868437227405311 MAX_eq hr
  rwa [W_false 9218868437227405311] at this
end Go.Proofs.Ytiohmafmkdbljaa.Fl
