import Derived.Test.YtacnclofbnafiabGreatDoorW5
import Derived.Test.YtacnclofbnafiabGreatDoorFA
namespace Go.Proofs.YtacnclofbnafiabGreatDoor
open Go.RowKit Fl

theorem xor_top (x : Nat) (s : Bool) (r : Nat) (hx : x = W s r) (h : r < 9223372036854775808) : x ^^^ 2 ^ 63 = W (!s) r := by
  have h1 : (x ^^^ 2 ^ 63) / 2 ^ 63 = x / 2 ^ 63 ^^^ 2 ^ 63 / 2 ^ 63 := Nat.xor_div_two_pow
  have h2 : (x ^^^ 2 ^ 63) % 2 ^ 63 = x % 2 ^ 63 ^^^ 2 ^ 63 % 2 ^ 63 := Nat.xor_mod_two_pow
  rw [Nat.mod_self, Nat.xor_zero] at h2
  rw [Nat.div_self (by decide)] at h1
  have e63 : (2 ^ 63 : Nat) = 9223372036854775808 := by decide
  have h3 := Nat.div_add_mod (x ^^^ 2 ^ 63) (2 ^ 63)
  rw [h1, h2] at h3
  rw [← h3, hx]
  rw [e63]
  unfold W
  cases s
  · simp only [Bool.false_eq_true, if_false, Nat.zero_add, Bool.not_false, if_true]
    rw [Nat.div_eq_of_lt h, Nat.mod_eq_of_lt h]
    rfl
  · simp only [if_true, Bool.not_true, Bool.false_eq_true, if_false, Nat.zero_add]
    have a1 : (9223372036854775808 + r) / 9223372036854775808 = 1 := by omega
    have a2 : (9223372036854775808 + r) % 9223372036854775808 = r := by omega
    rw [a1, a2]
    simp
theorem unary_negF (s : Bool) (r : Nat) (h : r < 9223372036854775808) : Op.unary .neg (.float .f64 (W s r)) = pure (.float .f64 (W (!s) r)) := by
  rw [← xor_top (W s r) s r rfl h]; rfl
@[go_sem] theorem buildE (a b : Nat) (c : Int) (w : World) : (Instr.build 209 #[(0, .float .f64 a), (1, .float .f64 b), (2, .int .i64 c)]).run Tryz.prog w = .ok (.agg #[.float .f64 a, .float .f64 b, .int .i64 c]) w := run_build w 209 _ _ (by kernel_rfl)
@[go_sem] theorem buildE' (a b : Nat) (w : World) : (Instr.build 209 #[(0, .float .f64 a), (1, .float .f64 b)]).run Tryz.prog w = .ok (.agg #[.float .f64 a, .float .f64 b, .int .i64 0]) w := run_build w 209 _ _ (by kernel_rfl)
@[go_sem] theorem run_store_float {P : Program} {w : World} {a : Addr} {m : Mode} (k : FloatKind) (b : Nat) : (store a (.float k b) m).run P w = stored P w a (.float k b) m := run_store P w a _ m rfl
/-- Of infinity and of numbers: below the sign's weight. -/
theorem fin_lt {r : Nat} (h : r ≤ INF) : r < 9223372036854775808 := by have := INF_lt; omega

theorem frexpR (s : Bool) (r : Nat) (h0 : 0 < r) (hr : r < INF) (w : World) :
    Calls Tryz.prog 178 #[.float .f64 (W s r)] w fun e w' => e = .returned (.tuple #[.float .f64 (W s (frR r)), .int .i64 (fe r)]) ∧ w' = w := by
  have h := Frexp_any s r h0 hr w
  rw [← frR] at h
  exact h
set_option maxHeartbeats 400000 in
theorem productOf_walk (s t : Bool) (r q l T : Nat) (hr0 : 0 < r) (hr : r < INF) (hq0 : 0 < q) (hq : q < INF) (hlI : l ≤ INF)
    (hm : Ieee.double.mul (W s (frR r)) (W t (frR q)) = some (W (s ^^ t) l)) (hT : Ieee.double.fma (W s (frR r)) (W t (frR q)) (W (!(s ^^ t)) l) = some T) (w : World) :
    Calls Tryz.prog 171 #[.float .f64 (W s r), .float .f64 (W t q)] w
      fun e w' => e = .returned (.agg #[.float .f64 (W (s ^^ t) l), .float .f64 T, .int .i64 (fe r + fe q)]) ∧ Below w.heap.size w w' := by
  obtain ⟨b1, b2⟩ := fe_bd r hr0 hr
  obtain ⟨b3, b4⟩ := fe_bd q hq0 hq
  have hmul := fun t' w => run_float_arith (P := Tryz.prog) w .mul t' .f64 _ _ _ hm
  have hfma := fma_run _ _ _ _ hT
  have hneg := unary_negF (s ^^ t) l (fin_lt hlI)
  clear hm hT hlI
  generalize hi : fe r = i at *
  generalize hj : fe q = j at *
  have g1 := frexpR s r hr0 hr
  have g2 := frexpR t q hq0 hq
  rw [hi] at g1
  rw [hj] at g2
  clear hi hj
  go_enter Tryz.func171, Tryz.ntmps171
  go_wp2_with fail
  go_at_call 178
  refine (g1 _).mono ?_
  rintro e w' ⟨rfl, rfl⟩
  go_wp2_with fail
  go_at_call 178
  refine (g2 _).mono ?_
  rintro e w' ⟨rfl, rfl⟩
  go_wp2_with fail
  exact bodyPost_ret (v := .agg #[.float .f64 (W (s ^^ t) l), .float .f64 T, .int .i64 (i + j)]) (by simp [results, Tryz.results171, go_sem]) rfl ⟨rfl, (Below.refl _ _).alloc (Nat.le_refl _) _⟩
theorem Frexp_zero (s : Bool) (w : World) :
    Calls Tryz.prog 178 #[.float .f64 (W s 0)] w fun e w' => e = .returned (.tuple #[.float .f64 (W s 0), .int .i64 0]) ∧ w' = w := by
  have h1 := order_zero s 0 (by decide)
  go_enter Tryz.func178, Tryz.ntmps178
  go_wp2
  go_ret2
  exact ⟨rfl, rfl⟩
theorem tdiv2 {i k : Int} (h : i = 2 * k) : i.tdiv 2 = k := by rw [h, Int.mul_comm]; exact Int.mul_tdiv_cancel _ (by decide)
theorem tmod2 {i k : Int} (h : i = 2 * k) : i.tmod 2 = 0 := by rw [h]; exact Int.mul_tmod_right _ _
theorem tmod2' {i : Int} (h : i % 2 ≠ 0) : i.tmod 2 ≠ 0 := by
  intro h'
  have := Int.dvd_of_tmod_eq_zero h'
  omega
set_option maxHeartbeats 400000 in
theorem rootOf_walk (X F l T : Nat) (i k : Int) (b1 : -1073 ≤ i) (b2 : i ≤ 1024)
    (hf : ∀ w, Calls Tryz.prog 178 #[.float .f64 X] w fun e w' => e = .returned (.tuple #[.float .f64 F, .int .i64 i]) ∧ w' = w)
    (D : Nat) (hk : (i % 2 = 0 ∧ D = F ∧ k = i / 2) ∨ (i % 2 ≠ 0 ∧ Ieee.double.mul 4611686018427387904 F = some D ∧ k = (i - 1) / 2))
    (hl : l ≤ INF) (hs : Ieee.double.sqrt D = some (W false l)) (hT : Ieee.double.fma (W true l) (W false l) D = some T) (w : World) :
    Calls Tryz.prog 180 #[.float .f64 X] w
      fun e w' => e = .returned (.agg #[.float .f64 (W false l), .float .f64 T, .int .i64 k]) ∧ Below w.heap.size w w' := by
  have hfma := fma_run _ _ _ _ hT
  have hneg := unary_negF false l (fin_lt hl)
  have hsq := Sqrt_any _ _ hs
  clear hl hs hT
  rcases hk with ⟨h1, h2, h3⟩ | ⟨h1, h2, h3⟩
  · subst h2
    have h4 : i.tmod 2 = 0 := tmod2 (k := k) (by omega)
    have h5 : i.tdiv 2 = k := tdiv2 (by omega)
    have k1 : -600 ≤ k := by omega
    have k2 : k ≤ 600 := by omega
    clear h1 h3
    go_enter Tryz.func180, Tryz.ntmps180
    go_wp2_with (first
      | (go_at_call 178; refine (hf _).mono ?_; rintro e w' ⟨rfl, rfl⟩)
      | (go_at_call 185; refine (hsq _).mono ?_; rintro e w' ⟨rfl, rfl⟩))
    exact bodyPost_ret (v := .agg #[.float .f64 (W false l), .float .f64 T, .int .i64 k]) (by simp [results, Tryz.results180, go_sem]) rfl ⟨rfl, (Below.refl _ _).alloc (Nat.le_refl _) _⟩
  · have hmul := fun t' w => run_float_arith (P := Tryz.prog) w .mul t' .f64 _ _ _ h2
    have h4 : i.tmod 2 ≠ 0 := tmod2' h1
    have h5 : (i - 1).tdiv 2 = k := tdiv2 (by omega)
    have k1 : -600 ≤ k := by omega
    have k2 : k ≤ 600 := by omega
    clear h1 h2 h3
    go_enter Tryz.func180, Tryz.ntmps180
    go_wp2_with (first
      | (go_at_call 178; refine (hf _).mono ?_; rintro e w' ⟨rfl, rfl⟩)
      | (go_at_call 185; refine (hsq _).mono ?_; rintro e w' ⟨rfl, rfl⟩))
    exact bodyPost_ret (v := .agg #[.float .f64 (W false l), .float .f64 T, .int .i64 k]) (by simp [results, Tryz.results180, go_sem]) rfl ⟨rfl, (Below.refl _ _).alloc (Nat.le_refl _) _⟩
end Go.Proofs.YtacnclofbnafiabGreatDoor
