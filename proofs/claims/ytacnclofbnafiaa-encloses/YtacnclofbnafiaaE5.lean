import Derived.Test.YtacnclofbnafiaaE3
import Derived.Test.YtacnclofbnafiaaE4
import Derived.Test.YtacnclofbnafiaaE4a
import Derived.Test.YtacnclofbnafiaaE4b
namespace Go.Proofs.Ytacnclofbnafiaa
open Go.RowKit Fl

theorem sign_ge {x : Int} (h : 0 ≤ x) : 0 ≤ x.sign := by
  rcases Int.lt_or_eq_of_le h with g | g
  · rw [Int.sign_eq_one_of_pos g]; omega
  · rw [← g]; simp
theorem sign_le {x : Int} (h : x ≤ 0) : x.sign ≤ 0 := by
  rcases Int.lt_or_eq_of_le h with g | g
  · rw [Int.sign_eq_neg_one_of_neg g]; omega
  · rw [g]; simp
theorem tmod_bd (k : Int) : (k.tmod 1048577).natAbs ≤ 1048576 := by
  have h : (k.tmod 1048577).natAbs = k.natAbs % 1048577 := by rw [Int.natAbs_tmod]; rfl
  omega
/-- A bound below a quotient is below it by Side too; one above, above. -/
theorem side_lo (F : Ops) {p q k l j : Int} {u v : Nat} (hu : Num u p k) (hv : Num v q l) (hl : l < 0 ↔ q < 0) (l0 : l ≠ 0) (h1 : -(INF : Int) < j) (h2 : j < INF)
    (hD : if l < 0 then j ≤ F.dD (-k) (-l) else j ≤ F.dD k l) : 0 ≤ (if q < 0 then Eo false (-Vk k * (U : Int)) (-Vk l) (Vk j) else Eo false (Vk k * (U : Int)) (Vk l) (Vk j)) := by
  have a1 := hu.lo
  have a2 := hu.hi
  have a3 := hv.lo
  have a4 := hv.hi
  by_cases g : q < 0
  · rw [if_pos (hl.2 g)] at hD
    rw [if_pos g]
    have r := (F.div (pl_neg hu.key.pl) (pl_neg hv.key.pl) (by have := hl.2 g; omega)).num (by omega) (by omega) (by have := hl.2 g; omega) (by omega)
    have := (r.dn.ok j h1 h2).2 hD
    rwa [Vk_neg, Vk_neg] at this
  · have hl' : ¬ l < 0 := fun c => g (hl.1 c)
    rw [if_neg hl'] at hD
    rw [if_neg g]
    have r := (F.div hu.key.pl hv.key.pl (by omega)).num a1 a2 (by omega) a4
    exact (r.dn.ok j h1 h2).2 hD
theorem side_hi (F : Ops) {p q k l j : Int} {u v : Nat} (hu : Num u p k) (hv : Num v q l) (hl : l < 0 ↔ q < 0) (l0 : l ≠ 0) (h1 : -(INF : Int) < j) (h2 : j < INF)
    (hD : if l < 0 then F.dU (-k) (-l) ≤ j else F.dU k l ≤ j) : (if q < 0 then Eo false (-Vk k * (U : Int)) (-Vk l) (Vk j) else Eo false (Vk k * (U : Int)) (Vk l) (Vk j)) ≤ 0 := by
  have a1 := hu.lo
  have a2 := hu.hi
  have a3 := hv.lo
  have a4 := hv.hi
  by_cases g : q < 0
  · rw [if_pos (hl.2 g)] at hD
    rw [if_pos g]
    have r := (F.div (pl_neg hu.key.pl) (pl_neg hv.key.pl) (by have := hl.2 g; omega)).num (by omega) (by omega) (by have := hl.2 g; omega) (by omega)
    have := (r.up.ok j h1 h2).2 hD
    rwa [Vk_neg, Vk_neg] at this
  · have hl' : ¬ l < 0 := fun c => g (hl.1 c)
    rw [if_neg hl'] at hD
    rw [if_neg g]
    have r := (F.div hu.key.pl hv.key.pl (by omega)).num a1 a2 (by omega) a4
    exact (r.up.ok j h1 h2).2 hD
theorem Num.sgn {v : Nat} {q l : Int} (h : Num v q l) : (l < 0 ↔ q < 0) ∧ (l = 0 ↔ q = 0) := by
  have hU := U_posI
  have e := h.val
  have n1 := @Vk_lt l 0
  have n2 := @Vk_lt 0 l
  rw [Vk_zero, e] at n1 n2
  rcases Int.lt_trichotomy q 0 with g | g | g
  · have := Int.mul_pos (show 0 < -q by omega) hU
    rw [Int.neg_mul] at this
    omega
  · subst g
    rw [Int.zero_mul] at n1 n2
    omega
  · have := Int.mul_pos g hU
    omega
theorem encloses_any (p0 q0 : Int) (a b c d : Nat) (ha : a < 18446744073709551616) (hb : b < 18446744073709551616) (hc : c < 18446744073709551616) (hd : d < 18446744073709551616) :
    ∀ w, Calls Try.prog 9 #[.int .i64 p0, .int .i64 q0, .float .f64 a, .float .f64 b, .float .f64 c, .float .f64 d] w fun e w' => e = .returned (.bool true) ∧ Below w.heap.size w w' := by
  obtain ⟨F⟩ := ops
  have hI := INF_pos
  have bp := tmod_bd p0
  have bq := tmod_bd q0
  have wp := whole_w p0
  have wq := whole_w q0
  generalize p0.tmod 1048577 = p at *
  generalize q0.tmod 1048577 = q at *
  obtain ⟨k, hu⟩ := num_int p (by omega)
  obtain ⟨l, hv⟩ := num_int q (by omega)
  obtain ⟨u, eu⟩ : ∃ u, floatOfInt .f64 p = u := ⟨_, rfl⟩
  obtain ⟨v, ev⟩ : ∃ v, floatOfInt .f64 q = v := ⟨_, rfl⟩
  have eu' : FloatKind.f64.nearest p = u := eu
  have ev' : FloatKind.f64.nearest q = v := ev
  rw [eu'] at hu
  rw [ev'] at hv
  clear eu' ev'
  have bpp : (p * p).natAbs ≤ 1048576 * 1048576 := by rw [Int.natAbs_mul]; exact Nat.mul_le_mul bp bp
  have bpq : (p * q).natAbs ≤ 1048576 * 1048576 := by rw [Int.natAbs_mul]; exact Nat.mul_le_mul bp bq
  obtain ⟨X1, X2, x, x', ix, x1, x2, ax⟩ := around_any hu.key hu.lo hu.hi ha hb
  obtain ⟨Y1, Y2, y, y', iy, y1, y2, ay⟩ := around_any hv.key hv.lo hv.hi hc hd
  obtain ⟨sw, m1, e1, n1⟩ := num_add hu hv (by omega)
  obtain ⟨dw, m2, e2, n2⟩ := num_sub hu hv (by omega)
  obtain ⟨mw, m3, e3, n3⟩ := num_mul hu hv (by omega)
  obtain ⟨uu, m4, e4, n4⟩ := num_mul hu hu (by omega)
  obtain ⟨Z1, Z2, z, z', iz, z1, z2, az⟩ := around_any n4.key n4.lo n4.hi ha hb
  obtain ⟨au, m5, n5, ab⟩ := abs_num hu
  -- sums
  have t1 := F.add_exact hu hv n1
  have g1 := (F.add_mono ix.x.pl iy.x.pl hu.key.pl hv.key.pl x1 y1).1
  have g2 := (F.add_mono hu.key.pl hv.key.pl ix.y.pl iy.y.pl x2 y2).2
  have pa := F.add_pl ix.x.pl iy.x.pl
  have pa' := F.add_pl ix.y.pl iy.y.pl
  have ga := has_any pa.1 pa'.2 n1.key n1.lo n1.hi (by omega) (by omega)
  have ca := iAdd_w X1 X2 Y1 Y2 _ _ (padd_ok F ix iy)
  -- differences
  rw [Int.sub_eq_add_neg] at n2
  have t2 := F.add_exact hu hv.neg n2
  have g3 := (F.add_mono ix.x.pl (pl_neg iy.y.pl) hu.key.pl (pl_neg hv.key.pl) x1 (by omega)).1
  have g4 := (F.add_mono hu.key.pl (pl_neg hv.key.pl) ix.y.pl (pl_neg iy.x.pl) x2 (by omega)).2
  have ps := F.add_pl ix.x.pl (pl_neg iy.y.pl)
  have ps' := F.add_pl ix.y.pl (pl_neg iy.x.pl)
  have gs := has_any ps.1 ps'.2 n2.key n2.lo n2.hi (by omega) (by omega)
  have cs := iSub_w X1 X2 Y1 Y2 _ _ (psub_ok F ix iy)
  -- products
  have t3 := F.mul_exact hu hv n3
  have g5 := F.p_has ix.x.pl ix.y.pl iy.x.pl iy.y.pl hu.key.pl hv.key.pl x1 x2 y1 y2
  have pm := F.p_pl ix.x.pl ix.y.pl iy.x.pl iy.y.pl
  have gm := has_any pm.1 pm.2 n3.key n3.lo n3.hi (by omega) (by omega)
  have cm := iMul_w X1 X2 Y1 Y2 _ _ (pmul_ok F ix iy)
  -- squares
  have t4 := F.mul_exact hu hu n4
  obtain ⟨sa, sb, hsa, hsb, cq, q1, q2⟩ := psqr_has F ix x1 x2
  have gk := has_any hsa hsb n4.key n4.lo n4.hi (by omega) (by omega)
  -- roots
  have n4' : Num uu ((p.natAbs : Int) * p.natAbs) m4 := by rw [Int.natAbs_mul_self' p]; exact n4
  have t5 := F.sqrt_exact n4' n5 (by omega)
  have k4 : 0 ≤ m4 := by
    have := n4.sgn
    have h0 : 0 ≤ p * p := by rw [← Int.natAbs_mul_self' p]; exact Int.mul_nonneg (by omega) (by omega)
    omega
  have hm : max z 0 ≤ min z' (INF : Int) := by have := n4.hi; omega
  have r1 := F.sqrt_mono (k := max z 0) (k' := m4) (pl_max iz.x.pl pl_zero) n4.key.pl (by omega) (by omega)
  have r2 := F.sqrt_mono (k := m4) (k' := min z' INF) n4.key.pl (pl_min iz.y.pl pl_inf) k4 (by have := n4.hi; omega)
  have pr := F.sqrt_pl (pl_max iz.x.pl pl_zero) (show 0 ≤ max z 0 by omega)
  have pr' := F.sqrt_pl (pl_min iz.y.pl pl_inf) (show 0 ≤ min z' (INF : Int) by omega)
  have gr := has_any pr.1 pr'.2 n5.key n5.lo n5.hi (by omega) (by omega)
  have cr := iSqrt_w Z1 Z2 _ _ (psqrt_ok F iz hm)
  by_cases hq : q = 0
  · subst hq
    exact enc_zero_w p0 q0 p a b c d u v X1 X2 Y1 Y2 _ _ _ _ _ _ sw dw mw _ _ uu Z1 Z2 _ _ au wp wq eu ev ax ay ca cs cm e1 e2 e3 e4 ga gs gm (iSqr_w X1 X2 _ _ cq) az cr gk ab gr
  have sg := hv.sgn
  obtain ⟨oa, ob, io, pd, hD⟩ := pdiv_has F ix iy x1 x2 y1 y2 hu.lo hu.hi hv.lo hv.hi (fun c => hq (sg.2.1 c))
  have cd := iDiv_w X1 X2 Y1 Y2 _ _ pd
  have no := none_no io
  have f1 := isInfN io.x
  have f2 := isInfP io.y
  have hq2 : (q == 0) = false := by simp [hq]
  have D1 : if l < 0 then oa ≤ F.dD (-k) (-l) else oa ≤ F.dD k l := by
    by_cases g : l < 0
    · rw [if_pos g] at hD ⊢; exact hD.1
    · rw [if_neg g] at hD ⊢; exact hD.1
  have D2 : if l < 0 then F.dU (-k) (-l) ≤ ob else F.dU k l ≤ ob := by
    by_cases g : l < 0
    · rw [if_pos g] at hD ⊢; exact hD.2
    · rw [if_neg g] at hD ⊢; exact hD.2
  have bo := io.x.bd
  have bo' := io.y.bd
  have io1 := io.lo
  have io2 := io.hi
  have l0 : l ≠ 0 := fun c => hq (sg.2.1 c)
  have S1 : oa ≠ -(INF : Int) → ∃ i, (∀ w, Calls Try.prog 55 #[.int .i64 2, .float .f64 u, .float .f64 v, .float .f64 (B oa)] w fun e w' => e = .returned (.int .i64 i) ∧ Below w.heap.size w w') ∧ 0 ≤ i := fun h => by
    obtain ⟨i, hi, e⟩ := side_any hu hv hq io.x (by omega) (by omega)
    exact ⟨i, hi, e ▸ sign_ge (side_lo F hu hv sg.1 l0 (by omega) (by omega) D1)⟩
  have S2 : ob ≠ (INF : Int) → ∃ i, (∀ w, Calls Try.prog 55 #[.int .i64 2, .float .f64 u, .float .f64 v, .float .f64 (B ob)] w fun e w' => e = .returned (.int .i64 i) ∧ Below w.heap.size w w') ∧ i ≤ 0 := fun h => by
    obtain ⟨i, hi, e⟩ := side_any hu hv hq io.y (by omega) (by omega)
    exact ⟨i, hi, e ▸ sign_le (side_hi F hu hv sg.1 l0 (by omega) (by omega) D2)⟩
  by_cases A : oa = -(INF : Int)
  · rw [decide_eq_true A] at f1
    by_cases O : ob = (INF : Int)
    · rw [decide_eq_true O] at f2
      exact enc_tt_w p0 q0 p q a b c d u v X1 X2 Y1 Y2 _ _ _ _ _ _ sw dw mw _ _ uu Z1 Z2 _ _ au _ _ wp wq eu ev ax ay ca cs cm e1 e2 e3 e4 ga gs gm (iSqr_w X1 X2 _ _ cq) az cr gk ab gr hq2 cd no f1 f2
    · rw [decide_eq_false O] at f2
      obtain ⟨i, s1, s2⟩ := S2 O
      exact enc_tf_w p0 q0 p q i a b c d u v X1 X2 Y1 Y2 _ _ _ _ _ _ sw dw mw _ _ uu Z1 Z2 _ _ au _ _ wp wq eu ev ax ay ca cs cm e1 e2 e3 e4 ga gs gm (iSqr_w X1 X2 _ _ cq) az cr gk ab gr hq2 cd no f1 f2 s1 s2
  · rw [decide_eq_false A] at f1
    obtain ⟨i, s1, s2⟩ := S1 A
    by_cases O : ob = (INF : Int)
    · rw [decide_eq_true O] at f2
      exact enc_ft_w p0 q0 p q i a b c d u v X1 X2 Y1 Y2 _ _ _ _ _ _ sw dw mw _ _ uu Z1 Z2 _ _ au _ _ wp wq eu ev ax ay ca cs cm e1 e2 e3 e4 ga gs gm (iSqr_w X1 X2 _ _ cq) az cr gk ab gr hq2 cd no f1 f2 s1 s2
    · rw [decide_eq_false O] at f2
      obtain ⟨j, s3, s4⟩ := S2 O
      exact enc_ff_w p0 q0 p q i j a b c d u v X1 X2 Y1 Y2 _ _ _ _ _ _ sw dw mw _ _ uu Z1 Z2 _ _ au _ _ wp wq eu ev ax ay ca cs cm e1 e2 e3 e4 ga gs gm (iSqr_w X1 X2 _ _ cq) az cr gk ab gr hq2 cd no f1 f2 s1 s2 s3 s4
end Go.Proofs.Ytacnclofbnafiaa
