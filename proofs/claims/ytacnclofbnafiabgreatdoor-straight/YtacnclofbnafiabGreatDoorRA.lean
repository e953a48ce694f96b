import Derived.Test.YtacnclofbnafiabGreatDoorR2
import Derived.Test.YtacnclofbnafiabGreatDoorW6
import Derived.Test.YtacnclofbnafiabGreatDoorDA
namespace Go.Proofs.YtacnclofbnafiabGreatDoor
open Go.RowKit Fl

theorem sgI_or (s : Bool) : sgI s = 1 ∨ sgI s = -1 := by cases s <;> simp [sgI]
theorem V_sg (s : Bool) (r : Nat) : V s r = sgI s * ((mg r : Int) * ((2 ^ (pl r + 1074).toNat : Nat) : Int)) := by
  unfold V sgI
  rw [M_pl, Int.natCast_mul]
  cases s <;> simp
theorem pl_le (r : Nat) (h : r < INF) : pl r ≤ 971 := by rw [INF_eq] at h; unfold pl; omega
theorem wrap_pow (n : Nat) (h : n ≤ 23) : wrap64 (2 ^ n) = ((2 ^ n : Nat) : Int) ∧ 0 < ((2 ^ n : Nat) : Int) ∧ ((2 ^ n : Nat) : Int) ≤ 8388608 := by
  have h1 : 2 ^ n ≤ 2 ^ 23 := Nat.pow_le_pow_right (by omega) h
  have h2 := Nat.two_pow_pos n
  have e : ((2 : Int) ^ n) = ((2 ^ n : Nat) : Int) := by simp
  rw [e]
  rw [show (2 ^ 23 : Nat) = 8388608 by decide] at h1
  exact ⟨by unfold wrap64; omega, by omega, by omega⟩
theorem alg (x y m n A B C D : Int) (h : A * B = C * D * 4096) : x * y * (m * n) * A * B = x * (m * C) * (y * (n * D)) * 4096 := by
  rw [Int.mul_assoc _ A B, h]
  simp only [Int.mul_assoc, Int.mul_left_comm, Int.mul_comm]
theorem exadd_any (be bd : Nat) (f : Nat → Int) (K : Int) (w : World) (s t : Bool) (r q : Nat) (hX : OwnX be bd f w) (hf : ∀ j, -K ≤ f j ∧ f j ≤ K)
    (hK0 : 0 ≤ K) (hK : K ≤ 576460752303423488) (hr : r < INF) (hq : q < INF) :
    Calls Tryz.prog 47 #[.pointer (some ⟨be, 0, none⟩), .float .f64 (W s r), .float .f64 (W t q)] w
      fun e w' => e = .returned (.tuple #[]) ∧ Below bd w w' ∧ ∃ f', OwnX be bd f' w' ∧ (∀ j, -(K + 1266637395197952) ≤ f' j ∧ f' j ≤ K + 1266637395197952)
        ∧ dv f' 190 = dv f 190 + V s r * V t q * 4096 := by
  have p1 := pl_ge r
  have p2 := pl_ge q
  have p3 := pl_le r hr
  have p4 := pl_le q hq
  obtain ⟨w1, w2, w3⟩ := wrap_pow ((pl r + pl q + 2160) % 24).toNat (by omega)
  refine (exadd_walk be bd f K w (W s r) (W t q) (mg r) (mg q) ((pl r + pl q + 2160) / 24).toNat (sgI s) (sgI t) (pl r) (pl q) _ hX hf hK0 hK (sgI_or s) (sgI_or t) (mg_lt r) (mg_lt q)
    p1 p3 p2 p4 (by omega) w1 w2 w3 (parts_any s r hr) (parts_any t q hq)).mono ?_
  rintro e w' ⟨h1, h2, f', h3, h4, h5⟩
  refine ⟨h1, h2, f', h3, h4, ?_⟩
  have e1 : ((2 ^ ((pl r + pl q + 2160) % 24).toNat : Nat) : Int) * ((2 ^ (24 * ((pl r + pl q + 2160) / 24).toNat) : Nat) : Int)
      = ((2 ^ (pl r + 1074).toNat : Nat) : Int) * ((2 ^ (pl q + 1074).toNat : Nat) : Int) * 4096 := by
    have e4 : (4096 : Int) = ((2 ^ 12 : Nat) : Int) := rfl
    have hx : ((pl r + pl q + 2160) % 24).toNat + 24 * ((pl r + pl q + 2160) / 24).toNat = (pl r + 1074).toNat + (pl q + 1074).toNat + 12 := by omega
    rw [e4, ← Int.natCast_mul, ← Int.natCast_mul, ← Int.natCast_mul, ← Nat.pow_add, ← Nat.pow_add, ← Nat.pow_add, hx]
  rw [h5, V_sg, V_sg, alg _ _ _ _ _ _ _ _ e1]

theorem oneW : W false 4607182418800017408 = 4607182418800017408 := W_false _
theorem one_lt : 4607182418800017408 < INF := by rw [INF_eq]; omega
theorem V_one : V false 4607182418800017408 = (U : Int) := by unfold V; rw [M_oneW]; rfl
/-- Adding one number. -/
theorem exadd_one (be bd : Nat) (f : Nat → Int) (K : Int) (w : World) (s : Bool) (r : Nat) (hX : OwnX be bd f w) (hf : ∀ j, -K ≤ f j ∧ f j ≤ K)
    (hK0 : 0 ≤ K) (hK : K ≤ 576460752303423488) (hr : r < INF) :
    Calls Tryz.prog 47 #[.pointer (some ⟨be, 0, none⟩), .float .f64 (W s r), .float .f64 4607182418800017408] w
      fun e w' => e = .returned (.tuple #[]) ∧ Below bd w w' ∧ ∃ f', OwnX be bd f' w' ∧ (∀ j, -(K + 1266637395197952) ≤ f' j ∧ f' j ≤ K + 1266637395197952)
        ∧ dv f' 190 = dv f 190 + V s r * (U : Int) * 4096 := by
  have h := exadd_any be bd f K w s false r 4607182418800017408 hX hf hK0 hK hr one_lt
  rw [oneW, V_one] at h
  exact h
/-- A bound on what is exact. -/
theorem VV_le (s t : Bool) (r q : Nat) (hr : r < INF) (hq : q < INF) : V s r * V t q ≤ ((M INF * M INF : Nat) : Int) := by
  have h1 := Nat.mul_le_mul (Nat.le_of_lt (M_lt hr)) (Nat.le_of_lt (M_lt hq))
  have h2 : V s r * V t q ≤ ((M r * M q : Nat) : Int) := by
    rw [V_mul]; split <;> omega
  omega
theorem big_bound : ((M INF * M INF : Nat) : Int) * 4096 * 3 < ((2 ^ (24 * 190) : Nat) : Int) := by
  obtain ⟨e, he⟩ : ∃ e : Nat, e = 2046 := ⟨_, rfl⟩
  obtain ⟨g, hg⟩ : ∃ g : Nat, g = 24 * 190 := ⟨_, rfl⟩
  have hI := M_at e
  have h2 : (e + 1) * 4503599627370496 = INF := by rw [INF_eq]; omega
  rw [h2] at hI
  rw [← hg, hI, ← Nat.pow_add]
  have h3 : 2 ^ (52 + e + (52 + e)) * 4096 * 3 < 2 ^ g := by
    calc 2 ^ (52 + e + (52 + e)) * 4096 * 3 < 2 ^ (52 + e + (52 + e)) * 2 ^ 14 := by
          have := Nat.two_pow_pos (52 + e + (52 + e))
          rw [Nat.mul_assoc]
          exact Nat.mul_lt_mul_of_pos_left (by decide) this
      _ = 2 ^ (52 + e + (52 + e) + 14) := (Nat.pow_add ..).symm
      _ ≤ 2 ^ g := Nat.pow_le_pow_right (by omega) (by omega)
  omega
theorem sign_scale (x c : Int) (hc : 0 < c) : (x * c).sign = x.sign := by
  rw [Int.sign_mul, Int.sign_eq_one_iff_pos.2 hc, Int.mul_one]
set_option maxHeartbeats 400000 in
theorem Side_plus (s t u : Bool) (r q z : Nat) (hr : r < INF) (hq : q < INF) (hz : z < INF) (w : World) :
    Calls Tryz.prog 165 #[.int .i64 0, .float .f64 (W s r), .float .f64 (W t q), .float .f64 (W u z)] w
      fun e w' => e = .returned (.int .i64 (V s r + V t q - V u z).sign) ∧ Below w.heap.size w w' := by
  have hneg := unary_negF u z (fin_lt (Nat.le_of_lt hz))
  go_enter Tryz.func165, Tryz.ntmps165
  go_wp2_with fail
  go_at_call 46
  refine (nought_any _).mono ?_
  rintro e w1 ⟨rfl, hX1, hB1⟩
  go_wp2_with fail
  go_at_call 47
  refine (exadd_one _ _ _ 0 _ s r hX1 (fun j => by simp) (by omega) (by omega) hr).mono ?_
  rintro e w2 ⟨rfl, hB2, f2, hX2, hf2, hd2⟩
  go_wp2_with fail
  go_at_call 47
  refine (exadd_one _ _ _ _ _ t q hX2 hf2 (by omega) (by omega) hq).mono ?_
  rintro e w3 ⟨rfl, hB3, f3, hX3, hf3, hd3⟩
  go_wp2_with fail
  go_at_call 47
  refine (exadd_one _ _ _ _ _ (!u) z hX3 hf3 (by omega) (by omega) hz).mono ?_
  rintro e w4 ⟨rfl, hB4, f4, hX4, hf4, hd4⟩
  have hd0 : dv (fun _ => 0) 190 = 0 := dv_zero 190
  have hval : dv f4 190 = (V s r + V t q - V u z) * ((U : Int) * 4096) := by
    rw [hd4, hd3, hd2, hd0, V_not]
    simp only [Int.sub_mul, Int.add_mul, Int.neg_mul, ← Int.mul_assoc]; omega
  have hbd : dv f4 190 < ((2 ^ (24 * 190) : Nat) : Int) := by
    have b := big_bound
    have v1 := VV_le s false r 4607182418800017408 hr one_lt
    have v2 := VV_le t false q 4607182418800017408 hq one_lt
    have v3 := VV_le (!u) false z 4607182418800017408 hz one_lt
    rw [V_one] at v1 v2 v3
    rw [hd4, hd3, hd2, hd0]
    omega
  have hsg : (dv f4 190).sign = (V s r + V t q - V u z).sign := by
    rw [hval]
    exact sign_scale _ _ (by have := U_pos; omega)
  have hBall : Below w.heap.size w w4 := ((hB1.trans hB2).trans hB3).trans hB4
  have hf4' : ∀ j, -1152921504606846976 ≤ f4 j ∧ f4 j ≤ 1152921504606846976 := fun j => by have := hf4 j; omega
  have hsn := sign_any _ _ f4 w4 hX4 hf4' hbd
  rw [hsg] at hsn
  clear hval hbd hsg hd4 hd3 hd2 hd0 hX1 hX2 hX3 hX4 hf2 hf3 hf4 hf4' hB1 hB2 hB3 hB4
  go_wp2_with (go_at_call 48; refine hsn.mono ?_; rintro e w' ⟨rfl, rfl⟩)
  go_ret
  exact ⟨rfl, hBall⟩
set_option maxHeartbeats 400000 in
theorem Side_times (s t u : Bool) (r q z : Nat) (hr : r < INF) (hq : q < INF) (hz : z < INF) (w : World) :
    Calls Tryz.prog 165 #[.int .i64 1, .float .f64 (W s r), .float .f64 (W t q), .float .f64 (W u z)] w
      fun e w' => e = .returned (.int .i64 (V s r * V t q - V u z * (U : Int)).sign) ∧ Below w.heap.size w w' := by
  have hneg := unary_negF u z (fin_lt (Nat.le_of_lt hz))
  go_enter Tryz.func165, Tryz.ntmps165
  go_wp2_with fail
  go_at_call 46
  refine (nought_any _).mono ?_
  rintro e w1 ⟨rfl, hX1, hB1⟩
  go_wp2_with fail
  go_at_call 47
  refine (exadd_any _ _ _ 0 _ s t r q hX1 (fun j => by simp) (by omega) (by omega) hr hq).mono ?_
  rintro e w2 ⟨rfl, hB2, f2, hX2, hf2, hd2⟩
  go_wp2_with fail
  go_at_call 47
  refine (exadd_one _ _ _ _ _ (!u) z hX2 hf2 (by omega) (by omega) hz).mono ?_
  rintro e w3 ⟨rfl, hB3, f3, hX3, hf3, hd3⟩
  have hd0 : dv (fun _ => 0) 190 = 0 := dv_zero 190
  have hval : dv f3 190 = (V s r * V t q - V u z * (U : Int)) * 4096 := by
    rw [hd3, hd2, hd0, V_not]
    simp only [Int.sub_mul, Int.neg_mul]; omega
  have hbd : dv f3 190 < ((2 ^ (24 * 190) : Nat) : Int) := by
    have b := big_bound
    have v1 := VV_le s t r q hr hq
    have v3 := VV_le (!u) false z 4607182418800017408 hz one_lt
    rw [V_one] at v3
    rw [hd3, hd2, hd0]
    omega
  have hsg : (dv f3 190).sign = (V s r * V t q - V u z * (U : Int)).sign := by
    rw [hval]
    exact sign_scale _ _ (by omega)
  have hBall : Below w.heap.size w w3 := (hB1.trans hB2).trans hB3
  have hf3' : ∀ j, -1152921504606846976 ≤ f3 j ∧ f3 j ≤ 1152921504606846976 := fun j => by have := hf3 j; omega
  have hsn := sign_any _ _ f3 w3 hX3 hf3' hbd
  rw [hsg] at hsn
  clear hval hbd hsg hd3 hd2 hd0 hX1 hX2 hX3 hf2 hf3 hf3' hB1 hB2 hB3
  go_wp2_with (go_at_call 48; refine hsn.mono ?_; rintro e w' ⟨rfl, rfl⟩)
  go_ret
  exact ⟨rfl, hBall⟩
end Go.Proofs.YtacnclofbnafiabGreatDoor

namespace Go.Proofs.YtacnclofbnafiabGreatDoor
open Go.RowKit Fl

theorem add_zero_W (s : Bool) (z : Nat) (hz : z < INF) : Ieee.double.add (W s z) 0 = some (pw s z) := by
  obtain ⟨sg, l, h1, h2, h3, h4⟩ := add_fin s false z 0 hz INF_pos
  rw [W_zero] at h1
  rw [V_zero, Int.add_zero] at h2 h3 h4
  have hl : l = z := h2.exact (Nat.le_of_lt hz) (by unfold Rt; rw [V_natAbs]; simp)
  subst hl
  rw [h1]
  unfold pw
  by_cases h0 : l = 0
  · subst h0
    rw [h4 (V_zero s)]; simp [W_zero]
  · rw [if_neg h0]
    have : sg = s := by
      cases s
      · exact h3.2 (V_pos (by omega))
      · exact h3.1 (V_neg (by omega))
    rw [this]
theorem pw_W (s : Bool) (z : Nat) (h : z ≠ 0) : pw s z = W s z := by unfold pw; rw [if_neg h]
theorem above_any (s : Bool) (z : Nat) (hz : z < INF) (w : World) :
    Calls Tryz.prog 167 #[.float .f64 (W s z)] w fun e w' => e = .returned (.float .f64 (W (abv s z).1 (abv s z).2)) ∧ w' = w := by
  have hz' := fin_lt (Nat.le_of_lt hz)
  rcases Nat.eq_zero_or_pos z with h0 | h0
  · have e : W (abv s z).1 (abv s z).2 = 1 := by unfold abv; rw [if_pos h0]; simp [W]
    have h := order_zero s z hz'
    rw [decide_eq_true h0] at h
    rw [e]
    clear e h0 hz hz'
    go_enter Tryz.func167, Tryz.ntmps167
    go_wp2
    go_ret
    exact ⟨rfl, rfl⟩
  · have h := order_ne_zero s z h0 hz'
    have hg := order_zero_cmp s z h0 (Nat.le_of_lt hz)
    cases s
    · have e : W (abv false z).1 (abv false z).2 = inc (W false z) := by
        rw [inc_W false z hz]; unfold abv; rw [if_neg (by omega)]; rfl
      have hg' : (Ieee.double.order (W false z) 0 == some .gt) = true := by rw [hg]; rfl
      rw [e]
      clear e h0 hz hz' hg
      go_enter Tryz.func167, Tryz.ntmps167
      go_wp2
      go_ret
      exact ⟨rfl, rfl⟩
    · have hg' : (Ieee.double.order (W true z) 0 == some .gt) = false := by rw [hg]; rfl
      have e : W (abv true z).1 (abv true z).2 = pw true (z - 1) := by
        unfold abv; rw [if_neg (by omega)]; simp only [if_true]
        split
        · rename_i h; subst h; simp [pw, W_zero]
        · rw [pw_W _ _ (by omega)]
      have hd : (IntKind.u64.wrap ((W true z : Int) - 1)).toNat = W true (z - 1) := dec_W true z h0 (Nat.le_of_lt hz)
      have ha := add_zero_W true (z - 1) (by omega)
      rw [← hd] at ha
      have hadd := fun t' w => run_float_arith (P := Tryz.prog) w .add t' .f64 _ _ _ ha
      rw [e]
      clear e h0 hz hz' hg ha hd
      go_enter Tryz.func167, Tryz.ntmps167
      go_wp2
      go_ret
      exact ⟨rfl, rfl⟩
theorem below_any (s : Bool) (z : Nat) (hz : z < INF) (w : World) :
    Calls Tryz.prog 166 #[.float .f64 (W s z)] w fun e w' => e = .returned (.float .f64 (W (blw s z).1 (blw s z).2)) ∧ w' = w := by
  have hn1 := unary_negF s z (fin_lt (Nat.le_of_lt hz))
  have hn2 := unary_negF (abv (!s) z).1 (abv (!s) z).2 (fin_lt (abv_le (!s) z hz).1)
  have ha := above_any (!s) z hz
  have e : W (blw s z).1 (blw s z).2 = W (!(abv (!s) z).1) (abv (!s) z).2 := rfl
  rw [e]
  clear e hz
  generalize (abv (!s) z).1 = u at *
  generalize (abv (!s) z).2 = y at *
  go_enter Tryz.func166, Tryz.ntmps166
  go_wp2_with (go_at_call 167; refine (ha _).mono ?_; rintro e w' ⟨rfl, rfl⟩)
  go_ret
  exact ⟨rfl, rfl⟩

/-- Beyond MAX, beyond -MAX. -/
theorem order_low' (s : Bool) (z mx : Nat) (hm : mx + 1 = INF) (hz : z ≤ INF) : (Ieee.double.order (W s z) (W true mx) == some .lt) = (s && decide (z = INF)) := by
  rcases Nat.lt_or_eq_of_le hz with h | h
  · rw [order_fin s true z mx h (by omega)]
    have h1 := (ix_min s z mx h hm).1
    have : ¬ V s z < V true mx := by rw [← ix_val]; omega
    have h2 : compare (V s z) (V true mx) ≠ .lt := by rw [Ne, Int.compare_eq_lt]; exact this
    have h3 : z ≠ INF := by omega
    simp [h2, h3]
  · subst h
    rw [order_inf_fin s true mx (by omega)]; cases s <;> simp
theorem order_high' (s : Bool) (z mx : Nat) (hm : mx + 1 = INF) (hz : z ≤ INF) : (Ieee.double.order (W s z) (W false mx) == some .gt) = (!s && decide (z = INF)) := by
  rcases Nat.lt_or_eq_of_le hz with h | h
  · rw [order_fin s false z mx h (by omega)]
    have h1 := (ix_min s z mx h hm).2
    have : ¬ V false mx < V s z := by rw [← ix_val]; omega
    have h2 : compare (V s z) (V false mx) ≠ .gt := by rw [Ne, Int.compare_eq_gt]; exact this
    have h3 : z ≠ INF := by omega
    simp [h2, h3]
  · subst h
    rw [order_inf_fin s false mx (by omega)]; cases s <;> simp
theorem W_low : W true 9218868437227405311 = 18442240474082181119 := by unfold W; rfl
theorem order_low (s : Bool) (z : Nat) (hz : z ≤ INF) : (Ieee.double.order (W s z) 18442240474082181119 == some .lt) = (s && decide (z = INF)) := by
  have := order_low' s z 9218868437227405311 MAX_eq hz
  rwa [W_low] at this
theorem order_high (s : Bool) (z : Nat) (hz : z ≤ INF) : (Ieee.double.order (W s z) 9218868437227405311 == some .gt) = (!s && decide (z = INF)) := by
  have := order_high' s z 9218868437227405311 MAX_eq hz
  rwa [W_false 9218868437227405311] at this
end Go.Proofs.YtacnclofbnafiabGreatDoor
